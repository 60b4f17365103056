/- Replace of package oplog, where it changes the log. -/
import Derived.Test.YtehcaigkohkbnaaReplaceB
namespace Go.Proofs.Ytehcaigkohkbnaa
open Go.RowKit

section
variable {S F : Nat → Prop} {l k base c : Nat} {v : Value} {ps : List (OpD × Value)}
set_option maxHeartbeats 2000000 in
set_option maxRecDepth 100000 in
theorem replace_yes (n : Nat) (v2 : Value) (qs : List (OpD × Value)) (w : World) (h : LogAt S w l k base v ps c) (hq : OpsIn F w v2 qs) (hsm : ∀ q ∈ qs, q.1.steps.length ≤ 1000000) (hm : qs.length ≤ 2000) (hn1 : c ≤ n) (hn2 : n ≤ qs.length) (hp : (qs.map (·.1)).take c = (ps.map (·.1)).take c) :
    Calls Try.prog 37 #[.pointer (some ⟨l, 0, none⟩), v2, .int .i64 (n : Int)] w (Changed S w l (qs.map (·.1)) n) := by
  have C := hide (made_yes w h)
  obtain ⟨f1, f2⟩ := replace_facts h hq
  have C1 := hide f1
  have C2 := hide f2
  obtain ⟨A2, c2, rfl, g1, g2, _⟩ := hq.1.shape
  have X1 := hide h.cell
  have X2 := hide h.parts.kept
  have hcom := h.parts.com
  have hge : c ≤ pre ((ps.map (·.1)).take c) (qs.map (·.1)) := by
    have hlen : ((ps.map (·.1)).take c).length = c := by simp; omega
    have := pre_whole (l := (ps.map (·.1)).take c) (m := qs.map (·.1))
    rw [hlen] at this
    exact this.2 hp
  have hpl := (pre_le ((ps.map (·.1)).take c) (qs.map (·.1))).1
  have hpl2 : pre ((ps.map (·.1)).take c) (qs.map (·.1)) ≤ 2000 := by
    have := h.parts.len
    simp at hpl
    omega
  generalize ps.take c = pq at C1 C2
  generalize pre ((ps.map (·.1)).take c) (qs.map (·.1)) = q at C2 hge hpl2
  have hlk : l ≠ k := h.ne
  have t1 : ¬ n < c := by omega
  have t2 : ¬ qs.length < n := by omega
  have t3 : ¬ q < c := by omega
  have hTail := hq.tail (lo := c) (by omega)
  unfold sliced at hTail
  have HTL := hide hTail
  have H := hide h
  have HSM := hide hsm
  have HPP := hide hp
  unfold maxLen at g2
  clear h hq hp f1 f2 hpl hTail hsm
  go_enter Try.func37, Try.ntmps37
  go_wp2_with (fail)
  refine C.out.mono ?_
  rintro e w1 ⟨rfl, rfl⟩
  go_wp2
  refine wp_region_L (by kernel_rfl) ?_
  refine wpAnyL_take (i := 0) (d := some 13) (v := ?vay0) rfl rfl (by kernel_rfl) (by kernel_rfl) (by kernel_rfl) (fun _ _ _ h => h) (by rfl) ?yay0 ?_
  case yay0 => (intro w' hw'; go_simp; try (with_reducible rfl))
  simp only [Act.put]; try simp only [List.setIfInBounds_toArray]; try simp only [List.set_cons_zero, List.set_cons_succ]
  refine wpAnyL_take (i := 1) (d := some 14) (v := ?vay1) rfl rfl (by kernel_rfl) (by kernel_rfl) (by kernel_rfl) (fun _ _ _ h => h) (by rfl) ?yay1 ?_
  case yay1 => (intro w' hw'; go_simp; try (with_reducible rfl))
  simp only [Act.put]; try simp only [List.setIfInBounds_toArray]; try simp only [List.set_cons_zero, List.set_cons_succ]
  refine wpAnyL_take (i := 2) (d := some 15) (v := ?vay2) rfl rfl (by kernel_rfl) (by kernel_rfl) (by kernel_rfl) (fun _ _ _ h => h) (by rfl) ?yay2 ?_
  case yay2 => (intro w' hw'; go_simp; try (with_reducible rfl))
  simp only [Act.put]; try simp only [List.setIfInBounds_toArray]; try simp only [List.set_cons_zero, List.set_cons_succ]
  refine wpAnyL_take (i := 3) (d := some 16) (v := ?vay3) rfl rfl (by kernel_rfl) (by kernel_rfl) (by kernel_rfl) (fun _ _ _ h => h) (by rfl) ?yay3 ?_
  case yay3 => (intro w' hw'; go_simp; try (with_reducible rfl))
  simp only [Act.put]; try simp only [List.setIfInBounds_toArray]; try simp only [List.set_cons_zero, List.set_cons_succ]
  refine wpAnyL_take (i := 4) (d := some 17) (v := ?vay4) rfl rfl (by kernel_rfl) (by kernel_rfl) (by kernel_rfl) (fun _ _ _ h => h) (by rfl) ?yay4 ?_
  case yay4 => (intro w' hw'; have hc0 := cell_of_row w' l 0 _ _ _ ((Below.block hw' l (lt_of_block X1.out)).trans X1.out); simp only [List.getElem?_toArray, List.getElem?_cons_zero] at hc0; go_simp; try (with_reducible rfl))
  simp only [Act.put]; try simp only [List.setIfInBounds_toArray]; try simp only [List.set_cons_zero, List.set_cons_succ]
  refine wpAnyL_take (i := 5) (d := some 18) (v := ?vay5) rfl rfl (by kernel_rfl) (by kernel_rfl) (by kernel_rfl) (fun _ _ _ h => h) (by rfl) ?yay5 ?_
  case yay5 => (intro w' hw'; go_simp; try (with_reducible rfl))
  simp only [Act.put]; try simp only [List.setIfInBounds_toArray]; try simp only [List.set_cons_zero, List.set_cons_succ]
  refine wpAnyL_take (i := 6) (d := some 19) (v := ?vay6) rfl rfl (by kernel_rfl) (by kernel_rfl) (by kernel_rfl) (fun _ _ _ h => h) (by rfl) ?yay6 ?_
  case yay6 => (intro w' hw'; go_simp; try (with_reducible rfl))
  simp only [Act.put]; try simp only [List.setIfInBounds_toArray]; try simp only [List.set_cons_zero, List.set_cons_succ]
  refine wpAnyL_take (i := 7) (d := some 20) (v := ?vay7) rfl rfl (by kernel_rfl) (by kernel_rfl) (by kernel_rfl) (fun _ _ _ h => h) (by rfl) ?yay7 ?_
  case yay7 => (intro w' hw'; have hc1 := cell_of_row w' k 1 _ _ _ ((Below.block hw' k (lt_of_block X2.out)).trans X2.out); simp only [List.getElem?_toArray, List.getElem?_cons_zero, List.getElem?_cons_succ] at hc1; go_simp; try (with_reducible rfl))
  simp only [Act.put]; try simp only [List.setIfInBounds_toArray]; try simp only [List.set_cons_zero, List.set_cons_succ]
  refine wpAnyL_take (i := 8) (d := some 21) (v := .bool false) rfl rfl (by kernel_rfl) (by kernel_rfl) (by kernel_rfl) (fun _ _ _ h => h) (by rfl) ?yay8 ?_
  case yay8 => (intro w' hw'; (first | (go_simp; done) | (go_simp; omega) | (go_simp; simp; omega)))
  simp only [Act.put]; try simp only [List.setIfInBounds_toArray]; try simp only [List.set_cons_zero, List.set_cons_succ]
  refine wpAnyL_take (i := 9) (d := some 22) (v := ?vay9) rfl rfl (by kernel_rfl) (by kernel_rfl) (by kernel_rfl) (fun _ _ _ h => h) (by rfl) ?yay9 ?_
  case yay9 => (intro w' hw'; go_simp; try (with_reducible rfl))
  simp only [Act.put]; try simp only [List.setIfInBounds_toArray]; try simp only [List.set_cons_zero, List.set_cons_succ]
  refine wpAnyL_take (i := 10) (d := some 23) (v := ?vay10) rfl rfl (by kernel_rfl) (by kernel_rfl) (by kernel_rfl) (fun _ _ _ h => h) (by rfl) ?yay10 ?_
  case yay10 => (intro w' hw'; go_simp; try (with_reducible rfl))
  simp only [Act.put]; try simp only [List.setIfInBounds_toArray]; try simp only [List.set_cons_zero, List.set_cons_succ]
  refine wpAnyL_take (i := 11) (d := some 24) (v := ?vay11) rfl rfl (by kernel_rfl) (by kernel_rfl) (by kernel_rfl) (fun _ _ _ h => h) (by rfl) ?yay11 ?_
  case yay11 => (intro w' hw'; go_simp; try (with_reducible rfl))
  simp only [Act.put]; try simp only [List.setIfInBounds_toArray]; try simp only [List.set_cons_zero, List.set_cons_succ]
  refine wpAnyL_take (i := 12) (d := some 25) (v := ?vay12) rfl rfl (by kernel_rfl) (by kernel_rfl) (by kernel_rfl) (fun _ _ _ h => h) (by rfl) ?yay12 ?_
  case yay12 => (intro w' hw'; go_simp; try (with_reducible rfl))
  simp only [Act.put]; try simp only [List.setIfInBounds_toArray]; try simp only [List.set_cons_zero, List.set_cons_succ]
  refine wpAnyL_take (i := 13) (d := some 26) (v := .bool false) rfl rfl (by kernel_rfl) (by kernel_rfl) (by kernel_rfl) (fun _ _ _ h => h) (by rfl) ?yay13 ?_
  case yay13 => (intro w' hw'; (first | (go_simp; done) | (go_simp; omega) | (go_simp; simp; omega)))
  simp only [Act.put]; try simp only [List.setIfInBounds_toArray]; try simp only [List.set_cons_zero, List.set_cons_succ]
  refine wpAnyL_take (i := 14) (d := some 27) (v := ?vay14) rfl rfl (by kernel_rfl) (by kernel_rfl) (by kernel_rfl) (fun _ _ _ h => h) (by rfl) ?yay14 ?_
  case yay14 => (intro w' hw'; go_simp; try (with_reducible rfl))
  simp only [Act.put]; try simp only [List.setIfInBounds_toArray]; try simp only [List.set_cons_zero, List.set_cons_succ]
  refine wpAnyL_take (i := 15) (d := some 28) (v := ?vay15) rfl rfl (by kernel_rfl) (by kernel_rfl) (by kernel_rfl) (fun _ _ _ h => h) (by rfl) ?yay15 ?_
  case yay15 => (intro w' hw'; go_simp; try (with_reducible rfl))
  simp only [Act.put]; try simp only [List.setIfInBounds_toArray]; try simp only [List.set_cons_zero, List.set_cons_succ]
  refine wpAnyL_take (i := 16) (d := some 29) (v := ?vay16) rfl rfl (by kernel_rfl) (by kernel_rfl) (by kernel_rfl) (fun _ _ _ h => h) (by rfl) ?yay16 ?_
  case yay16 => (intro w' hw'; go_simp; try (with_reducible rfl))
  simp only [Act.put]; try simp only [List.setIfInBounds_toArray]; try simp only [List.set_cons_zero, List.set_cons_succ]
  refine wpAnyL_take (i := 17) (d := some 30) (v := ?vay17) rfl rfl (by kernel_rfl) (by kernel_rfl) (by kernel_rfl) (fun _ _ _ h => h) (by rfl) ?yay17 ?_
  case yay17 => (intro w' hw'; go_simp; try (with_reducible rfl))
  simp only [Act.put]; try simp only [List.setIfInBounds_toArray]; try simp only [List.set_cons_zero, List.set_cons_succ]
  refine wpAnyL_take (i := 18) (d := some 31) (v := ?vay18) rfl rfl (by kernel_rfl) (by kernel_rfl) (by kernel_rfl) (fun _ _ _ h => h) (by rfl) ?yay18 ?_
  case yay18 => (intro w' hw'; go_simp; try (with_reducible rfl))
  simp only [Act.put]; try simp only [List.setIfInBounds_toArray]; try simp only [List.set_cons_zero, List.set_cons_succ]
  refine wpAnyL_take (i := 19) (d := some 32) (v := ?vay19) rfl rfl (by kernel_rfl) (by kernel_rfl) (by kernel_rfl) (fun _ _ _ h => h) (by rfl) ?yay19 ?_
  case yay19 => (intro w' hw'; have hc0 := cell_of_row w' l 0 _ _ _ ((Below.block hw' l (lt_of_block X1.out)).trans X1.out); simp only [List.getElem?_toArray, List.getElem?_cons_zero] at hc0; go_simp; try (with_reducible rfl))
  simp only [Act.put]; try simp only [List.setIfInBounds_toArray]; try simp only [List.set_cons_zero, List.set_cons_succ]
  refine wpAnyL_take (i := 20) (d := some 33) (v := ?vay20) rfl rfl (by kernel_rfl) (by kernel_rfl) (by kernel_rfl) (fun _ _ _ h => h) (by rfl) ?yay20 ?_
  case yay20 => (intro w' hw'; go_simp; try (with_reducible rfl))
  simp only [Act.put]; try simp only [List.setIfInBounds_toArray]; try simp only [List.set_cons_zero, List.set_cons_succ]
  refine wpAnyL_take (i := 21) (d := some 34) (v := ?vay21) rfl rfl (by kernel_rfl) (by kernel_rfl) (by kernel_rfl) (fun _ _ _ h => h) (by rfl) ?yay21 ?_
  case yay21 => (intro w' hw'; go_simp; try (with_reducible rfl))
  simp only [Act.put]; try simp only [List.setIfInBounds_toArray]; try simp only [List.set_cons_zero, List.set_cons_succ]
  refine wpAnyL_take (i := 22) (d := some 35) (v := ?vay22) rfl rfl (by kernel_rfl) (by kernel_rfl) (by kernel_rfl) (fun _ _ _ h => h) (by rfl) ?yay22 ?_
  case yay22 => (intro w' hw'; go_simp; try (with_reducible rfl))
  simp only [Act.put]; try simp only [List.setIfInBounds_toArray]; try simp only [List.set_cons_zero, List.set_cons_succ]
  refine wpAnyL_take (i := 23) (d := some 36) (v := ?vay23) rfl rfl (by kernel_rfl) (by kernel_rfl) (by kernel_rfl) (fun _ _ _ h => h) (by rfl) ?yay23 ?_
  case yay23 => (intro w' hw'; have hc0 := cell_of_row w' l 0 _ _ _ ((Below.block hw' l (lt_of_block X1.out)).trans X1.out); simp only [List.getElem?_toArray, List.getElem?_cons_zero] at hc0; go_simp; try (with_reducible rfl))
  simp only [Act.put]; try simp only [List.setIfInBounds_toArray]; try simp only [List.set_cons_zero, List.set_cons_succ]
  refine wpAnyL_take (i := 24) (d := some 37) (v := ?vay24) rfl rfl (by kernel_rfl) (by kernel_rfl) (by kernel_rfl) (fun _ _ _ h => h) (by rfl) ?yay24 ?_
  case yay24 => (intro w' hw'; go_simp; try (with_reducible rfl))
  simp only [Act.put]; try simp only [List.setIfInBounds_toArray]; try simp only [List.set_cons_zero, List.set_cons_succ]
  refine wpAnyL_take (i := 25) (d := some 38) (v := ?vay25) rfl rfl (by kernel_rfl) (by kernel_rfl) (by kernel_rfl) (fun _ _ _ h => h) (by rfl) ?yay25 ?_
  case yay25 => (intro w' hw'; go_simp; try (with_reducible rfl))
  simp only [Act.put]; try simp only [List.setIfInBounds_toArray]; try simp only [List.set_cons_zero, List.set_cons_succ]
  refine wpAnyL_take (i := 26) (d := some 39) (v := ?vay26) rfl rfl (by kernel_rfl) (by kernel_rfl) (by kernel_rfl) (fun _ _ _ h => h) (by rfl) ?yay26 ?_
  case yay26 => (intro w' hw'; have hc1 := cell_of_row w' k 1 _ _ _ ((Below.block hw' k (lt_of_block X2.out)).trans X2.out); simp only [List.getElem?_toArray, List.getElem?_cons_zero, List.getElem?_cons_succ] at hc1; go_simp; try (with_reducible rfl))
  simp only [Act.put]; try simp only [List.setIfInBounds_toArray]; try simp only [List.set_cons_zero, List.set_cons_succ]
  refine wpAnyL_take (i := 28) (d := some 41) (v := ?vay28) rfl rfl (by kernel_rfl) (by kernel_rfl) (by kernel_rfl) (fun _ _ _ h => h) (by rfl) ?yay28 ?_
  case yay28 => (intro w' hw'; go_simp; try (with_reducible rfl))
  simp only [Act.put]; try simp only [List.setIfInBounds_toArray]; try simp only [List.set_cons_zero, List.set_cons_succ]
  refine wpAnyL_take (i := 30) (d := some 43) (v := ?vay30) rfl rfl (by kernel_rfl) (by kernel_rfl) (by kernel_rfl) (fun _ _ _ h => h) (by rfl) ?yay30 ?_
  case yay30 => (intro w' hw'; go_simp; try (with_reducible rfl))
  simp only [Act.put]; try simp only [List.setIfInBounds_toArray]; try simp only [List.set_cons_zero, List.set_cons_succ]
  refine wpAnyL_take (i := 31) (d := some 44) (v := ?vay31) rfl rfl (by kernel_rfl) (by kernel_rfl) (by kernel_rfl) (fun _ _ _ h => h) (by rfl) ?yay31 ?_
  case yay31 => (intro w' hw'; go_simp; try (with_reducible rfl))
  simp only [Act.put]; try simp only [List.setIfInBounds_toArray]; try simp only [List.set_cons_zero, List.set_cons_succ]
  refine wpAnyL_take (i := 32) (d := some 45) (v := ?vay32) rfl rfl (by kernel_rfl) (by kernel_rfl) (by kernel_rfl) (fun _ _ _ h => h) (by rfl) ?yay32 ?_
  case yay32 => (intro w' hw'; go_simp; try (with_reducible rfl))
  simp only [Act.put]; try simp only [List.setIfInBounds_toArray]; try simp only [List.set_cons_zero, List.set_cons_succ]
  refine wpAnyL_take (i := 33) (d := some 46) (v := ?vay33) rfl rfl (by kernel_rfl) (by kernel_rfl) (by kernel_rfl) (fun _ _ _ h => h) (by rfl) ?yay33 ?_
  case yay33 => (intro w' hw'; have hc0 := cell_of_row w' l 0 _ _ _ ((Below.block hw' l (lt_of_block X1.out)).trans X1.out); simp only [List.getElem?_toArray, List.getElem?_cons_zero] at hc0; go_simp; try (with_reducible rfl))
  simp only [Act.put]; try simp only [List.setIfInBounds_toArray]; try simp only [List.set_cons_zero, List.set_cons_succ]
  refine wpAnyL_take (i := 34) (d := some 47) (v := ?vay34) rfl rfl (by kernel_rfl) (by kernel_rfl) (by kernel_rfl) (fun _ _ _ h => h) (by rfl) ?yay34 ?_
  case yay34 => (intro w' hw'; go_simp; try (with_reducible rfl))
  simp only [Act.put]; try simp only [List.setIfInBounds_toArray]; try simp only [List.set_cons_zero, List.set_cons_succ]
  refine wpAnyL_take (i := 35) (d := some 48) (v := ?vay35) rfl rfl (by kernel_rfl) (by kernel_rfl) (by kernel_rfl) (fun _ _ _ h => h) (by rfl) ?yay35 ?_
  case yay35 => (intro w' hw'; go_simp; try (with_reducible rfl))
  simp only [Act.put]; try simp only [List.setIfInBounds_toArray]; try simp only [List.set_cons_zero, List.set_cons_succ]
  refine wpAnyL_take (i := 36) (d := some 49) (v := ?vay36) rfl rfl (by kernel_rfl) (by kernel_rfl) (by kernel_rfl) (fun _ _ _ h => h) (by rfl) ?yay36 ?_
  case yay36 => (intro w' hw'; have hc1 := cell_of_row w' k 1 _ _ _ ((Below.block hw' k (lt_of_block X2.out)).trans X2.out); simp only [List.getElem?_toArray, List.getElem?_cons_zero, List.getElem?_cons_succ] at hc1; go_simp; try (with_reducible rfl))
  simp only [Act.put]; try simp only [List.setIfInBounds_toArray]; try simp only [List.set_cons_zero, List.set_cons_succ]
  refine wpAnyL_only (i := 27) rfl (by kernel_rfl) (by rfl) fun K hK => ?_
  go_simp
  refine (C1.out w.drew (Later.drew _)).mono ?_
  rintro e w0 ⟨v1, rfl, ho1, rfl⟩
  have HO1 := hide ho1
  obtain ⟨A1, p1, rfl, _, _, _⟩ := ho1.1.shape
  clear ho1
  refine hK.out _ _ (Later.refl _) ?_
  clear hK K
  try (simp only [Act.put]; try simp only [List.setIfInBounds_toArray]; try simp only [List.set_cons_zero, List.set_cons_succ])
  refine wpAnyL_only (i := 29) rfl (by kernel_rfl) (by rfl) fun K hK => ?_
  go_simp
  refine (C2.out _ w.drew (Later.drew _) HO1.out).mono ?_
  rintro e w1 ⟨rfl, hb1⟩
  have L1 : Hid (Later w w1) := (Later.drew w).trans hb1
  have HB1 := hide hb1
  clear hb1
  refine hK.out _ _ HB1.out ?_
  clear hK K
  try (simp only [Act.put]; try simp only [List.setIfInBounds_toArray]; try simp only [List.set_cons_zero, List.set_cons_succ])
  refine wpAnyL_take (i := 37) (d := some 50) (v := .bool false) rfl rfl (by kernel_rfl) (by kernel_rfl) (by kernel_rfl) (fun _ _ _ h => h) (by rfl) ?yay37 ?_
  case yay37 => (intro w' hw'; (first | (go_simp; done) | (go_simp; omega) | (go_simp; simp; omega)))
  simp only [Act.put]; try simp only [List.setIfInBounds_toArray]; try simp only [List.set_cons_zero, List.set_cons_succ]
  refine wpAnyL_take (i := 38) (d := some 51) (v := ?vay38) rfl rfl (by kernel_rfl) (by kernel_rfl) (by kernel_rfl) (fun _ _ _ h => h) (by rfl) ?yay38 ?_
  case yay38 => (intro w' hw'; go_simp; try (with_reducible rfl))
  simp only [Act.put]; try simp only [List.setIfInBounds_toArray]; try simp only [List.set_cons_zero, List.set_cons_succ]
  refine wpAnyL_done (by kernel_rfl) ?_ _
  have H1 := hide (H.out.later L1.out)
  have Y1 := hide H1.out.cell
  have Y2 := hide H1.out.parts.kept
  have C3 := hide (goon_any (F := F) c _ (qs.drop c) w1.drew (H1.out.keep (Kept.drew _ _)).parts hcom ((HTL.out.kept (Kept.of_below L1.out F)).kept (Kept.drew _ _)) (fun q hq => HSM.out q (List.mem_of_mem_drop hq)) (by rw [List.length_drop]; omega) (by rw [List.length_drop]; omega))
  have hcq : c ≤ qs.length := by omega
  go_wp2
  refine wp_region_S (fun j => j == 20) (by kernel_rfl) ?_
  refine wpAnyS_take (i := 0) (d := some 52) (v := ?vaz0) rfl rfl (by kernel_rfl) (by kernel_rfl) (by kernel_rfl) (by kernel_rfl) (by kernel_rfl) (fun _ _ _ h => h) (by rfl) ?yaz0 ?_
  case yaz0 => (intro w' hw'; go_simp; try (with_reducible rfl))
  simp only [Act.put]; try simp only [List.setIfInBounds_toArray]; try simp only [List.set_cons_zero, List.set_cons_succ]
  refine wpAnyS_take (i := 1) (d := some 53) (v := ?vaz1) rfl rfl (by kernel_rfl) (by kernel_rfl) (by kernel_rfl) (by kernel_rfl) (by kernel_rfl) (fun _ _ _ h => h) (by rfl) ?yaz1 ?_
  case yaz1 => (intro w' hw'; go_simp; try (with_reducible rfl))
  simp only [Act.put]; try simp only [List.setIfInBounds_toArray]; try simp only [List.set_cons_zero, List.set_cons_succ]
  refine wpAnyS_take (i := 2) (d := some 54) (v := ?vaz2) rfl rfl (by kernel_rfl) (by kernel_rfl) (by kernel_rfl) (by kernel_rfl) (by kernel_rfl) (fun _ _ _ h => h) (by rfl) ?yaz2 ?_
  case yaz2 => (intro w' hw'; go_simp; try (with_reducible rfl))
  simp only [Act.put]; try simp only [List.setIfInBounds_toArray]; try simp only [List.set_cons_zero, List.set_cons_succ]
  refine wpAnyS_take (i := 3) (d := some 55) (v := ?vaz3) rfl rfl (by kernel_rfl) (by kernel_rfl) (by kernel_rfl) (by kernel_rfl) (by kernel_rfl) (fun _ _ _ h => h) (by rfl) ?yaz3 ?_
  case yaz3 => (intro w' hw'; have hc0 := cell_of_row w' l 0 _ _ _ ((Below.block hw' l (lt_of_block Y1.out)).trans Y1.out); simp only [List.getElem?_toArray, List.getElem?_cons_zero] at hc0; go_simp; try (with_reducible rfl))
  simp only [Act.put]; try simp only [List.setIfInBounds_toArray]; try simp only [List.set_cons_zero, List.set_cons_succ]
  refine wpAnyS_take (i := 4) (d := some 56) (v := ?vaz4) rfl rfl (by kernel_rfl) (by kernel_rfl) (by kernel_rfl) (by kernel_rfl) (by kernel_rfl) (fun _ _ _ h => h) (by rfl) ?yaz4 ?_
  case yaz4 => (intro w' hw'; go_simp; try (with_reducible rfl))
  simp only [Act.put]; try simp only [List.setIfInBounds_toArray]; try simp only [List.set_cons_zero, List.set_cons_succ]
  refine wpAnyS_take (i := 5) (d := some 57) (v := ?vaz5) rfl rfl (by kernel_rfl) (by kernel_rfl) (by kernel_rfl) (by kernel_rfl) (by kernel_rfl) (fun _ _ _ h => h) (by rfl) ?yaz5 ?_
  case yaz5 => (intro w' hw'; go_simp; try (with_reducible rfl))
  simp only [Act.put]; try simp only [List.setIfInBounds_toArray]; try simp only [List.set_cons_zero, List.set_cons_succ]
  refine wpAnyS_take (i := 6) (d := some 58) (v := ?vaz6) rfl rfl (by kernel_rfl) (by kernel_rfl) (by kernel_rfl) (by kernel_rfl) (by kernel_rfl) (fun _ _ _ h => h) (by rfl) ?yaz6 ?_
  case yaz6 => (intro w' hw'; go_simp; try (with_reducible rfl))
  simp only [Act.put]; try simp only [List.setIfInBounds_toArray]; try simp only [List.set_cons_zero, List.set_cons_succ]
  refine wpAnyS_take (i := 7) (d := some 59) (v := ?vaz7) rfl rfl (by kernel_rfl) (by kernel_rfl) (by kernel_rfl) (by kernel_rfl) (by kernel_rfl) (fun _ _ _ h => h) (by rfl) ?yaz7 ?_
  case yaz7 => (intro w' hw'; have hc0 := cell_of_row w' l 0 _ _ _ ((Below.block hw' l (lt_of_block Y1.out)).trans Y1.out); simp only [List.getElem?_toArray, List.getElem?_cons_zero] at hc0; go_simp; try (with_reducible rfl))
  simp only [Act.put]; try simp only [List.setIfInBounds_toArray]; try simp only [List.set_cons_zero, List.set_cons_succ]
  refine wpAnyS_take (i := 8) (d := some 60) (v := ?vaz8) rfl rfl (by kernel_rfl) (by kernel_rfl) (by kernel_rfl) (by kernel_rfl) (by kernel_rfl) (fun _ _ _ h => h) (by rfl) ?yaz8 ?_
  case yaz8 => (intro w' hw'; go_simp; try (with_reducible rfl))
  simp only [Act.put]; try simp only [List.setIfInBounds_toArray]; try simp only [List.set_cons_zero, List.set_cons_succ]
  refine wpAnyS_take (i := 9) (d := some 61) (v := ?vaz9) rfl rfl (by kernel_rfl) (by kernel_rfl) (by kernel_rfl) (by kernel_rfl) (by kernel_rfl) (fun _ _ _ h => h) (by rfl) ?yaz9 ?_
  case yaz9 => (intro w' hw'; go_simp; try (with_reducible rfl))
  simp only [Act.put]; try simp only [List.setIfInBounds_toArray]; try simp only [List.set_cons_zero, List.set_cons_succ]
  refine wpAnyS_take (i := 10) (d := some 62) (v := ?vaz10) rfl rfl (by kernel_rfl) (by kernel_rfl) (by kernel_rfl) (by kernel_rfl) (by kernel_rfl) (fun _ _ _ h => h) (by rfl) ?yaz10 ?_
  case yaz10 => (intro w' hw'; have hc1 := cell_of_row w' k 1 _ _ _ ((Below.block hw' k (lt_of_block Y2.out)).trans Y2.out); simp only [List.getElem?_toArray, List.getElem?_cons_zero, List.getElem?_cons_succ] at hc1; go_simp; try (with_reducible rfl))
  simp only [Act.put]; try simp only [List.setIfInBounds_toArray]; try simp only [List.set_cons_zero, List.set_cons_succ]
  refine wpAnyS_take (i := 11) (d := some 63) (v := ?vaz11) rfl rfl (by kernel_rfl) (by kernel_rfl) (by kernel_rfl) (by kernel_rfl) (by kernel_rfl) (fun _ _ _ h => h) (by rfl) ?yaz11 ?_
  case yaz11 => (intro w' hw'; go_simp; try (with_reducible rfl))
  simp only [Act.put]; try simp only [List.setIfInBounds_toArray]; try simp only [List.set_cons_zero, List.set_cons_succ]
  refine wpAnyS_take (i := 12) (d := some 64) (v := ?vaz12) rfl rfl (by kernel_rfl) (by kernel_rfl) (by kernel_rfl) (by kernel_rfl) (by kernel_rfl) (fun _ _ _ h => h) (by rfl) ?yaz12 ?_
  case yaz12 => (intro w' hw'; go_simp; try (with_reducible rfl))
  simp only [Act.put]; try simp only [List.setIfInBounds_toArray]; try simp only [List.set_cons_zero, List.set_cons_succ]
  refine wpAnyS_take (i := 13) (d := some 65) (v := ?vaz13) rfl rfl (by kernel_rfl) (by kernel_rfl) (by kernel_rfl) (by kernel_rfl) (by kernel_rfl) (fun _ _ _ h => h) (by rfl) ?yaz13 ?_
  case yaz13 => (intro w' hw'; go_simp; try (with_reducible rfl))
  simp only [Act.put]; try simp only [List.setIfInBounds_toArray]; try simp only [List.set_cons_zero, List.set_cons_succ]
  refine wpAnyS_take (i := 14) (d := some 66) (v := ?vaz14) rfl rfl (by kernel_rfl) (by kernel_rfl) (by kernel_rfl) (by kernel_rfl) (by kernel_rfl) (fun _ _ _ h => h) (by rfl) ?yaz14 ?_
  case yaz14 => (intro w' hw'; go_simp; try (with_reducible rfl))
  simp only [Act.put]; try simp only [List.setIfInBounds_toArray]; try simp only [List.set_cons_zero, List.set_cons_succ]
  refine wpAnyS_take (i := 15) (d := some 67) (v := ?vaz15) rfl rfl (by kernel_rfl) (by kernel_rfl) (by kernel_rfl) (by kernel_rfl) (by kernel_rfl) (fun _ _ _ h => h) (by rfl) ?yaz15 ?_
  case yaz15 => (intro w' hw'; have hc0 := cell_of_row w' l 0 _ _ _ ((Below.block hw' l (lt_of_block Y1.out)).trans Y1.out); simp only [List.getElem?_toArray, List.getElem?_cons_zero] at hc0; go_simp; try (with_reducible rfl))
  simp only [Act.put]; try simp only [List.setIfInBounds_toArray]; try simp only [List.set_cons_zero, List.set_cons_succ]
  refine wpAnyS_take (i := 16) (d := some 68) (v := ?vaz16) rfl rfl (by kernel_rfl) (by kernel_rfl) (by kernel_rfl) (by kernel_rfl) (by kernel_rfl) (fun _ _ _ h => h) (by rfl) ?yaz16 ?_
  case yaz16 => (intro w' hw'; go_simp; try (with_reducible rfl))
  simp only [Act.put]; try simp only [List.setIfInBounds_toArray]; try simp only [List.set_cons_zero, List.set_cons_succ]
  refine wpAnyS_take (i := 17) (d := some 69) (v := ?vaz17) rfl rfl (by kernel_rfl) (by kernel_rfl) (by kernel_rfl) (by kernel_rfl) (by kernel_rfl) (fun _ _ _ h => h) (by rfl) ?yaz17 ?_
  case yaz17 => (intro w' hw'; go_simp; try (with_reducible rfl))
  simp only [Act.put]; try simp only [List.setIfInBounds_toArray]; try simp only [List.set_cons_zero, List.set_cons_succ]
  refine wpAnyS_take (i := 18) (d := some 70) (v := ?vaz18) rfl rfl (by kernel_rfl) (by kernel_rfl) (by kernel_rfl) (by kernel_rfl) (by kernel_rfl) (fun _ _ _ h => h) (by rfl) ?yaz18 ?_
  case yaz18 => (intro w' hw'; have hc1 := cell_of_row w' k 1 _ _ _ ((Below.block hw' k (lt_of_block Y2.out)).trans Y2.out); simp only [List.getElem?_toArray, List.getElem?_cons_zero, List.getElem?_cons_succ] at hc1; go_simp; try (with_reducible rfl))
  simp only [Act.put]; try simp only [List.setIfInBounds_toArray]; try simp only [List.set_cons_zero, List.set_cons_succ]
  refine wpAnyS_take (i := 19) (d := some 71) (v := ?vaz19) rfl rfl (by kernel_rfl) (by kernel_rfl) (by kernel_rfl) (by kernel_rfl) (by kernel_rfl) (fun _ _ _ h => h) (by rfl) ?yaz19 ?_
  case yaz19 => (intro w' hw'; go_simp; try (with_reducible rfl))
  simp only [Act.put]; try simp only [List.setIfInBounds_toArray]; try simp only [List.set_cons_zero, List.set_cons_succ]
  refine wpAnyS_write (i := 20) rfl rfl (by kernel_rfl) (by rfl) fun K hK => ?_
  go_simp
  refine (C3.out).mono ?_
  rintro e w2 ⟨base', v', rs, rfl, hrs, hp, ht⟩
  have HP := hide hp
  have HT := hide ht
  have HRS := hide hrs
  clear hp ht hrs
  refine hK.out _ _ ?_
  clear hK K
  try (simp only [Act.put]; try simp only [List.setIfInBounds_toArray]; try simp only [List.set_cons_zero, List.set_cons_succ])
  refine wpAnyS_done (by kernel_rfl) ?_ _
  have hk2 := HP.out.cells
  obtain ⟨j0, j1, g0, g1⟩ := hk2
  have hcl2 : w2.cell? ⟨l, 0, none⟩ = some (.pointer (some ⟨k, 0, none⟩)) := by
    have := (HT.out.block l (lt_of_block Y1.out) hlk).trans Y1.out
    exact cell_of_row w2 l 0 _ _ _ this
  have FIN : Hid (Changed S w l (qs.map (·.1)) n (.returned (.int .i64 0)) (w2.setCell ⟨k, 1, none⟩ (.int .i64 (n : Int)))) := by
    have hL2 : LogAt (Grows S w1.drew w2) w2 l k base' v' (ps.take c ++ rs) c := (H1.out.keep (Kept.drew _ _)).put (HT.out.block l (lt_of_block Y1.out) hlk) HP.out
    have hlen : (ps.take c ++ rs).length = qs.length := by
      have h1 : rs.length = (qs.drop c).length := by have := congrArg List.length HRS.out; simpa using this
      rw [List.length_append, h1]
      simp
      omega
    have hL3 := hL2.commits (c' := n) (by omega)
    have hsz : w.heap.size ≤ w1.heap.size := L1.out.size
    have hsz2 : w1.heap.size ≤ w2.heap.size := HT.out.size
    have e1 : (w2.setCell ⟨k, 1, none⟩ (.int .i64 (n : Int))).heap.size = w2.heap.size := by simp [World.setCell]
    refine ⟨k, base', v', _, rfl, ?_, hL3.mono fun i hi => ?_, ?_⟩
    · rw [List.map_append, HRS.out, List.map_take, ← HPP.out, List.map_drop, List.take_append_drop]
    · rcases hi with hi | ⟨h1, h2⟩
      · exact .inl hi
      · have h1' : w1.heap.size ≤ i := h1
        exact .inr ⟨by omega, by omega⟩
    · have hT1 : Turned (fun i => i = k) w w2 := (Turned.of_below L1.out _).trans ((Turned.drewN _ _ 1).trans HT.out)
      exact (hT1.trans (Turned.of_grown (grown_set w2 k 1 _) fun g e => (Option.some.inj e).symm)).mono fun i e => by rw [e]; exact H.out.parts.inn.1
  clear HP HT HRS H1 HTL HSM HPP C3
  go_wp2
  all_goals (go_ret; exact FIN.out)
end
end Go.Proofs.Ytehcaigkohkbnaa
