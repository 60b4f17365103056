/- Replace of package oplog, where the beginning is another one. -/
import Derived.Test.YtehcaigkohkbnaaReplaceA
namespace Go.Proofs.Ytehcaigkohkbnaa
open Go.RowKit

section
variable {S F : Nat → Prop} {l k base c : Nat} {v : Value} {ps : List (OpD × Value)}
/-- What stands ahead of the comparison. -/
theorem replace_facts {v2 : Value} {qs : List (OpD × Value)} {w : World} (h : LogAt S w l k base v ps c) (hq : OpsIn F w v2 qs) :
    (∀ w', Later w w' → Calls Try.prog 60 #[.pointer (some ⟨k, 0, none⟩), .int .i64 0, .int .i64 (c : Int)] w' fun e w'' => ∃ v', e = .returned v' ∧ OpsIn S w' v' (ps.take c) ∧ w' = w'') ∧
    (∀ v1 w', Later w w' → OpsIn S w' v1 (ps.take c) → Calls Try.prog 62 #[v1, v2] w' fun e w'' => e = .returned (.int .i64 ((pre ((ps.map (·.1)).take c) (qs.map (·.1)) : Nat) : Int)) ∧ Below w'.heap.size w' w'') :=
  ⟨fun w' hb => by
    have := part_any 0 c w' (h.later hb).parts (Nat.zero_le _) h.parts.com
    rw [List.drop_zero] at this
    exact this,
   fun v1 w' hb ho => prefix_any S F v1 v2 _ _ w' ⟨_, by rw [List.map_take], ho⟩ ⟨qs, rfl, hq.kept (Kept.of_below hb F)⟩⟩

set_option maxHeartbeats 2000000 in
set_option maxRecDepth 100000 in
theorem replace_other (n : Int) (v2 : Value) (qs : List (OpD × Value)) (w : World) (h : LogAt S w l k base v ps c) (hq : OpsIn F w v2 qs) (hm : qs.length ≤ 2000) (hn1 : c ≤ n) (hn2 : n ≤ qs.length) (hp : (qs.map (·.1)).take c ≠ (ps.map (·.1)).take c) :
    Calls Try.prog 37 #[.pointer (some ⟨l, 0, none⟩), v2, .int .i64 n] w fun e w' => e = .returned (.int .i64 2) ∧ Below w.heap.size w w' := by
  have C := hide (made_yes w h)
  obtain ⟨f1, f2⟩ := replace_facts h hq
  have C1 := hide f1
  have C2 := hide f2
  obtain ⟨A2, c2, rfl, _, _, _⟩ := hq.1.shape
  have X1 := hide h.cell
  have X2 := hide h.parts.kept
  have hlt : pre ((ps.map (·.1)).take c) (qs.map (·.1)) < c := by
    rcases Nat.lt_or_ge (pre ((ps.map (·.1)).take c) (qs.map (·.1))) c with h1 | h1
    · exact h1
    · exfalso
      have hlen : ((ps.map (·.1)).take c).length = c := by have := h.parts.com; simp; omega
      have := pre_whole.1 (by rw [hlen]; exact h1 : ((ps.map (·.1)).take c).length ≤ pre ((ps.map (·.1)).take c) (qs.map (·.1)))
      rw [hlen] at this
      exact hp this
  generalize ps.take c = pq at C1 C2
  generalize pre ((ps.map (·.1)).take c) (qs.map (·.1)) = q at C2 hlt
  have hlk : l ≠ k := h.ne
  have t1 : ¬ n < (c : Int) := by omega
  have t2 : ¬ (qs.length : Int) < n := by omega
  clear h hq hp f1 f2
  go_enter Try.func37, Try.ntmps37
  go_wp2_with (fail)
  refine C.out.mono ?_
  rintro e w1 ⟨rfl, rfl⟩
  go_wp2
  refine wp_region_L (by kernel_rfl) ?_
  refine wpAnyL_take (i := 0) (d := some 13) (v := ?vax0) rfl rfl (by kernel_rfl) (by kernel_rfl) (by kernel_rfl) (fun _ _ _ h => h) (by rfl) ?yax0 ?_
  case yax0 => (intro w' hw'; go_simp; try (with_reducible rfl))
  simp only [Act.put]; try simp only [List.setIfInBounds_toArray]; try simp only [List.set_cons_zero, List.set_cons_succ]
  refine wpAnyL_take (i := 1) (d := some 14) (v := ?vax1) rfl rfl (by kernel_rfl) (by kernel_rfl) (by kernel_rfl) (fun _ _ _ h => h) (by rfl) ?yax1 ?_
  case yax1 => (intro w' hw'; go_simp; try (with_reducible rfl))
  simp only [Act.put]; try simp only [List.setIfInBounds_toArray]; try simp only [List.set_cons_zero, List.set_cons_succ]
  refine wpAnyL_take (i := 2) (d := some 15) (v := ?vax2) rfl rfl (by kernel_rfl) (by kernel_rfl) (by kernel_rfl) (fun _ _ _ h => h) (by rfl) ?yax2 ?_
  case yax2 => (intro w' hw'; go_simp; try (with_reducible rfl))
  simp only [Act.put]; try simp only [List.setIfInBounds_toArray]; try simp only [List.set_cons_zero, List.set_cons_succ]
  refine wpAnyL_take (i := 3) (d := some 16) (v := ?vax3) rfl rfl (by kernel_rfl) (by kernel_rfl) (by kernel_rfl) (fun _ _ _ h => h) (by rfl) ?yax3 ?_
  case yax3 => (intro w' hw'; go_simp; try (with_reducible rfl))
  simp only [Act.put]; try simp only [List.setIfInBounds_toArray]; try simp only [List.set_cons_zero, List.set_cons_succ]
  refine wpAnyL_take (i := 4) (d := some 17) (v := ?vax4) rfl rfl (by kernel_rfl) (by kernel_rfl) (by kernel_rfl) (fun _ _ _ h => h) (by rfl) ?yax4 ?_
  case yax4 => (intro w' hw'; have hc0 := cell_of_row w' l 0 _ _ _ ((Below.block hw' l (lt_of_block X1.out)).trans X1.out); simp only [List.getElem?_toArray, List.getElem?_cons_zero] at hc0; go_simp; try (with_reducible rfl))
  simp only [Act.put]; try simp only [List.setIfInBounds_toArray]; try simp only [List.set_cons_zero, List.set_cons_succ]
  refine wpAnyL_take (i := 5) (d := some 18) (v := ?vax5) rfl rfl (by kernel_rfl) (by kernel_rfl) (by kernel_rfl) (fun _ _ _ h => h) (by rfl) ?yax5 ?_
  case yax5 => (intro w' hw'; go_simp; try (with_reducible rfl))
  simp only [Act.put]; try simp only [List.setIfInBounds_toArray]; try simp only [List.set_cons_zero, List.set_cons_succ]
  refine wpAnyL_take (i := 6) (d := some 19) (v := ?vax6) rfl rfl (by kernel_rfl) (by kernel_rfl) (by kernel_rfl) (fun _ _ _ h => h) (by rfl) ?yax6 ?_
  case yax6 => (intro w' hw'; go_simp; try (with_reducible rfl))
  simp only [Act.put]; try simp only [List.setIfInBounds_toArray]; try simp only [List.set_cons_zero, List.set_cons_succ]
  refine wpAnyL_take (i := 7) (d := some 20) (v := ?vax7) rfl rfl (by kernel_rfl) (by kernel_rfl) (by kernel_rfl) (fun _ _ _ h => h) (by rfl) ?yax7 ?_
  case yax7 => (intro w' hw'; have hc1 := cell_of_row w' k 1 _ _ _ ((Below.block hw' k (lt_of_block X2.out)).trans X2.out); simp only [List.getElem?_toArray, List.getElem?_cons_zero, List.getElem?_cons_succ] at hc1; go_simp; try (with_reducible rfl))
  simp only [Act.put]; try simp only [List.setIfInBounds_toArray]; try simp only [List.set_cons_zero, List.set_cons_succ]
  refine wpAnyL_take (i := 8) (d := some 21) (v := .bool false) rfl rfl (by kernel_rfl) (by kernel_rfl) (by kernel_rfl) (fun _ _ _ h => h) (by rfl) ?yax8 ?_
  case yax8 => (intro w' hw'; (first | (go_simp; done) | (go_simp; omega) | (go_simp; simp; omega)))
  simp only [Act.put]; try simp only [List.setIfInBounds_toArray]; try simp only [List.set_cons_zero, List.set_cons_succ]
  refine wpAnyL_take (i := 9) (d := some 22) (v := ?vax9) rfl rfl (by kernel_rfl) (by kernel_rfl) (by kernel_rfl) (fun _ _ _ h => h) (by rfl) ?yax9 ?_
  case yax9 => (intro w' hw'; go_simp; try (with_reducible rfl))
  simp only [Act.put]; try simp only [List.setIfInBounds_toArray]; try simp only [List.set_cons_zero, List.set_cons_succ]
  refine wpAnyL_take (i := 10) (d := some 23) (v := ?vax10) rfl rfl (by kernel_rfl) (by kernel_rfl) (by kernel_rfl) (fun _ _ _ h => h) (by rfl) ?yax10 ?_
  case yax10 => (intro w' hw'; go_simp; try (with_reducible rfl))
  simp only [Act.put]; try simp only [List.setIfInBounds_toArray]; try simp only [List.set_cons_zero, List.set_cons_succ]
  refine wpAnyL_take (i := 11) (d := some 24) (v := ?vax11) rfl rfl (by kernel_rfl) (by kernel_rfl) (by kernel_rfl) (fun _ _ _ h => h) (by rfl) ?yax11 ?_
  case yax11 => (intro w' hw'; go_simp; try (with_reducible rfl))
  simp only [Act.put]; try simp only [List.setIfInBounds_toArray]; try simp only [List.set_cons_zero, List.set_cons_succ]
  refine wpAnyL_take (i := 12) (d := some 25) (v := ?vax12) rfl rfl (by kernel_rfl) (by kernel_rfl) (by kernel_rfl) (fun _ _ _ h => h) (by rfl) ?yax12 ?_
  case yax12 => (intro w' hw'; go_simp; try (with_reducible rfl))
  simp only [Act.put]; try simp only [List.setIfInBounds_toArray]; try simp only [List.set_cons_zero, List.set_cons_succ]
  refine wpAnyL_take (i := 13) (d := some 26) (v := .bool false) rfl rfl (by kernel_rfl) (by kernel_rfl) (by kernel_rfl) (fun _ _ _ h => h) (by rfl) ?yax13 ?_
  case yax13 => (intro w' hw'; (first | (go_simp; done) | (go_simp; omega) | (go_simp; simp; omega)))
  simp only [Act.put]; try simp only [List.setIfInBounds_toArray]; try simp only [List.set_cons_zero, List.set_cons_succ]
  refine wpAnyL_take (i := 14) (d := some 27) (v := ?vax14) rfl rfl (by kernel_rfl) (by kernel_rfl) (by kernel_rfl) (fun _ _ _ h => h) (by rfl) ?yax14 ?_
  case yax14 => (intro w' hw'; go_simp; try (with_reducible rfl))
  simp only [Act.put]; try simp only [List.setIfInBounds_toArray]; try simp only [List.set_cons_zero, List.set_cons_succ]
  refine wpAnyL_take (i := 15) (d := some 28) (v := ?vax15) rfl rfl (by kernel_rfl) (by kernel_rfl) (by kernel_rfl) (fun _ _ _ h => h) (by rfl) ?yax15 ?_
  case yax15 => (intro w' hw'; go_simp; try (with_reducible rfl))
  simp only [Act.put]; try simp only [List.setIfInBounds_toArray]; try simp only [List.set_cons_zero, List.set_cons_succ]
  refine wpAnyL_take (i := 16) (d := some 29) (v := ?vax16) rfl rfl (by kernel_rfl) (by kernel_rfl) (by kernel_rfl) (fun _ _ _ h => h) (by rfl) ?yax16 ?_
  case yax16 => (intro w' hw'; go_simp; try (with_reducible rfl))
  simp only [Act.put]; try simp only [List.setIfInBounds_toArray]; try simp only [List.set_cons_zero, List.set_cons_succ]
  refine wpAnyL_take (i := 17) (d := some 30) (v := ?vax17) rfl rfl (by kernel_rfl) (by kernel_rfl) (by kernel_rfl) (fun _ _ _ h => h) (by rfl) ?yax17 ?_
  case yax17 => (intro w' hw'; go_simp; try (with_reducible rfl))
  simp only [Act.put]; try simp only [List.setIfInBounds_toArray]; try simp only [List.set_cons_zero, List.set_cons_succ]
  refine wpAnyL_take (i := 18) (d := some 31) (v := ?vax18) rfl rfl (by kernel_rfl) (by kernel_rfl) (by kernel_rfl) (fun _ _ _ h => h) (by rfl) ?yax18 ?_
  case yax18 => (intro w' hw'; go_simp; try (with_reducible rfl))
  simp only [Act.put]; try simp only [List.setIfInBounds_toArray]; try simp only [List.set_cons_zero, List.set_cons_succ]
  refine wpAnyL_take (i := 19) (d := some 32) (v := ?vax19) rfl rfl (by kernel_rfl) (by kernel_rfl) (by kernel_rfl) (fun _ _ _ h => h) (by rfl) ?yax19 ?_
  case yax19 => (intro w' hw'; have hc0 := cell_of_row w' l 0 _ _ _ ((Below.block hw' l (lt_of_block X1.out)).trans X1.out); simp only [List.getElem?_toArray, List.getElem?_cons_zero] at hc0; go_simp; try (with_reducible rfl))
  simp only [Act.put]; try simp only [List.setIfInBounds_toArray]; try simp only [List.set_cons_zero, List.set_cons_succ]
  refine wpAnyL_take (i := 20) (d := some 33) (v := ?vax20) rfl rfl (by kernel_rfl) (by kernel_rfl) (by kernel_rfl) (fun _ _ _ h => h) (by rfl) ?yax20 ?_
  case yax20 => (intro w' hw'; go_simp; try (with_reducible rfl))
  simp only [Act.put]; try simp only [List.setIfInBounds_toArray]; try simp only [List.set_cons_zero, List.set_cons_succ]
  refine wpAnyL_take (i := 21) (d := some 34) (v := ?vax21) rfl rfl (by kernel_rfl) (by kernel_rfl) (by kernel_rfl) (fun _ _ _ h => h) (by rfl) ?yax21 ?_
  case yax21 => (intro w' hw'; go_simp; try (with_reducible rfl))
  simp only [Act.put]; try simp only [List.setIfInBounds_toArray]; try simp only [List.set_cons_zero, List.set_cons_succ]
  refine wpAnyL_take (i := 22) (d := some 35) (v := ?vax22) rfl rfl (by kernel_rfl) (by kernel_rfl) (by kernel_rfl) (fun _ _ _ h => h) (by rfl) ?yax22 ?_
  case yax22 => (intro w' hw'; go_simp; try (with_reducible rfl))
  simp only [Act.put]; try simp only [List.setIfInBounds_toArray]; try simp only [List.set_cons_zero, List.set_cons_succ]
  refine wpAnyL_take (i := 23) (d := some 36) (v := ?vax23) rfl rfl (by kernel_rfl) (by kernel_rfl) (by kernel_rfl) (fun _ _ _ h => h) (by rfl) ?yax23 ?_
  case yax23 => (intro w' hw'; have hc0 := cell_of_row w' l 0 _ _ _ ((Below.block hw' l (lt_of_block X1.out)).trans X1.out); simp only [List.getElem?_toArray, List.getElem?_cons_zero] at hc0; go_simp; try (with_reducible rfl))
  simp only [Act.put]; try simp only [List.setIfInBounds_toArray]; try simp only [List.set_cons_zero, List.set_cons_succ]
  refine wpAnyL_take (i := 24) (d := some 37) (v := ?vax24) rfl rfl (by kernel_rfl) (by kernel_rfl) (by kernel_rfl) (fun _ _ _ h => h) (by rfl) ?yax24 ?_
  case yax24 => (intro w' hw'; go_simp; try (with_reducible rfl))
  simp only [Act.put]; try simp only [List.setIfInBounds_toArray]; try simp only [List.set_cons_zero, List.set_cons_succ]
  refine wpAnyL_take (i := 25) (d := some 38) (v := ?vax25) rfl rfl (by kernel_rfl) (by kernel_rfl) (by kernel_rfl) (fun _ _ _ h => h) (by rfl) ?yax25 ?_
  case yax25 => (intro w' hw'; go_simp; try (with_reducible rfl))
  simp only [Act.put]; try simp only [List.setIfInBounds_toArray]; try simp only [List.set_cons_zero, List.set_cons_succ]
  refine wpAnyL_take (i := 26) (d := some 39) (v := ?vax26) rfl rfl (by kernel_rfl) (by kernel_rfl) (by kernel_rfl) (fun _ _ _ h => h) (by rfl) ?yax26 ?_
  case yax26 => (intro w' hw'; have hc1 := cell_of_row w' k 1 _ _ _ ((Below.block hw' k (lt_of_block X2.out)).trans X2.out); simp only [List.getElem?_toArray, List.getElem?_cons_zero, List.getElem?_cons_succ] at hc1; go_simp; try (with_reducible rfl))
  simp only [Act.put]; try simp only [List.setIfInBounds_toArray]; try simp only [List.set_cons_zero, List.set_cons_succ]
  refine wpAnyL_take (i := 28) (d := some 41) (v := ?vax28) rfl rfl (by kernel_rfl) (by kernel_rfl) (by kernel_rfl) (fun _ _ _ h => h) (by rfl) ?yax28 ?_
  case yax28 => (intro w' hw'; go_simp; try (with_reducible rfl))
  simp only [Act.put]; try simp only [List.setIfInBounds_toArray]; try simp only [List.set_cons_zero, List.set_cons_succ]
  refine wpAnyL_take (i := 30) (d := some 43) (v := ?vax30) rfl rfl (by kernel_rfl) (by kernel_rfl) (by kernel_rfl) (fun _ _ _ h => h) (by rfl) ?yax30 ?_
  case yax30 => (intro w' hw'; go_simp; try (with_reducible rfl))
  simp only [Act.put]; try simp only [List.setIfInBounds_toArray]; try simp only [List.set_cons_zero, List.set_cons_succ]
  refine wpAnyL_take (i := 31) (d := some 44) (v := ?vax31) rfl rfl (by kernel_rfl) (by kernel_rfl) (by kernel_rfl) (fun _ _ _ h => h) (by rfl) ?yax31 ?_
  case yax31 => (intro w' hw'; go_simp; try (with_reducible rfl))
  simp only [Act.put]; try simp only [List.setIfInBounds_toArray]; try simp only [List.set_cons_zero, List.set_cons_succ]
  refine wpAnyL_take (i := 32) (d := some 45) (v := ?vax32) rfl rfl (by kernel_rfl) (by kernel_rfl) (by kernel_rfl) (fun _ _ _ h => h) (by rfl) ?yax32 ?_
  case yax32 => (intro w' hw'; go_simp; try (with_reducible rfl))
  simp only [Act.put]; try simp only [List.setIfInBounds_toArray]; try simp only [List.set_cons_zero, List.set_cons_succ]
  refine wpAnyL_take (i := 33) (d := some 46) (v := ?vax33) rfl rfl (by kernel_rfl) (by kernel_rfl) (by kernel_rfl) (fun _ _ _ h => h) (by rfl) ?yax33 ?_
  case yax33 => (intro w' hw'; have hc0 := cell_of_row w' l 0 _ _ _ ((Below.block hw' l (lt_of_block X1.out)).trans X1.out); simp only [List.getElem?_toArray, List.getElem?_cons_zero] at hc0; go_simp; try (with_reducible rfl))
  simp only [Act.put]; try simp only [List.setIfInBounds_toArray]; try simp only [List.set_cons_zero, List.set_cons_succ]
  refine wpAnyL_take (i := 34) (d := some 47) (v := ?vax34) rfl rfl (by kernel_rfl) (by kernel_rfl) (by kernel_rfl) (fun _ _ _ h => h) (by rfl) ?yax34 ?_
  case yax34 => (intro w' hw'; go_simp; try (with_reducible rfl))
  simp only [Act.put]; try simp only [List.setIfInBounds_toArray]; try simp only [List.set_cons_zero, List.set_cons_succ]
  refine wpAnyL_take (i := 35) (d := some 48) (v := ?vax35) rfl rfl (by kernel_rfl) (by kernel_rfl) (by kernel_rfl) (fun _ _ _ h => h) (by rfl) ?yax35 ?_
  case yax35 => (intro w' hw'; go_simp; try (with_reducible rfl))
  simp only [Act.put]; try simp only [List.setIfInBounds_toArray]; try simp only [List.set_cons_zero, List.set_cons_succ]
  refine wpAnyL_take (i := 36) (d := some 49) (v := ?vax36) rfl rfl (by kernel_rfl) (by kernel_rfl) (by kernel_rfl) (fun _ _ _ h => h) (by rfl) ?yax36 ?_
  case yax36 => (intro w' hw'; have hc1 := cell_of_row w' k 1 _ _ _ ((Below.block hw' k (lt_of_block X2.out)).trans X2.out); simp only [List.getElem?_toArray, List.getElem?_cons_zero, List.getElem?_cons_succ] at hc1; go_simp; try (with_reducible rfl))
  simp only [Act.put]; try simp only [List.setIfInBounds_toArray]; try simp only [List.set_cons_zero, List.set_cons_succ]
  refine wpAnyL_only (i := 27) rfl (by kernel_rfl) (by rfl) fun K hK => ?_
  go_simp
  refine (C1.out w.drew (Later.drew _)).mono ?_
  rintro e w0 ⟨v1, rfl, ho1, rfl⟩
  have HO1 := hide ho1
  obtain ⟨A1, p1, rfl, _, _, _⟩ := ho1.1.shape
  clear ho1
  refine hK.out _ _ (Later.refl _) ?_
  clear hK K
  try (simp only [Act.put]; try simp only [List.setIfInBounds_toArray]; try simp only [List.set_cons_zero, List.set_cons_succ])
  refine wpAnyL_only (i := 29) rfl (by kernel_rfl) (by rfl) fun K hK => ?_
  go_simp
  refine (C2.out _ w.drew (Later.drew _) HO1.out).mono ?_
  rintro e w1 ⟨rfl, hb1⟩
  have L1 : Hid (Later w w1) := (Later.drew w).trans hb1
  have HB1 := hide hb1
  clear hb1
  refine hK.out _ _ HB1.out ?_
  clear hK K
  try (simp only [Act.put]; try simp only [List.setIfInBounds_toArray]; try simp only [List.set_cons_zero, List.set_cons_succ])
  refine wpAnyL_take (i := 37) (d := some 50) (v := .bool true) rfl rfl (by kernel_rfl) (by kernel_rfl) (by kernel_rfl) (fun _ _ _ h => h) (by rfl) ?yax37 ?_
  case yax37 => (intro w' hw'; (first | (go_simp; done) | (go_simp; omega) | (go_simp; simp; omega)))
  simp only [Act.put]; try simp only [List.setIfInBounds_toArray]; try simp only [List.set_cons_zero, List.set_cons_succ]
  refine wpAnyL_take (i := 38) (d := some 51) (v := ?vax38) rfl rfl (by kernel_rfl) (by kernel_rfl) (by kernel_rfl) (fun _ _ _ h => h) (by rfl) ?yax38 ?_
  case yax38 => (intro w' hw'; go_simp; try (with_reducible rfl))
  simp only [Act.put]; try simp only [List.setIfInBounds_toArray]; try simp only [List.set_cons_zero, List.set_cons_succ]
  refine wpAnyL_done (by kernel_rfl) ?_ _
  go_wp2
  go_ret
  exact ⟨rfl, L1.out⟩

end
end Go.Proofs.Ytehcaigkohkbnaa
