/- The walk over droverlaw02.EnvelopeSeals. -/
import Derived.Test.YtjbnilippcdgeaaDoorLives2
import Derived.Test.YtjbnilippcdgeaaDoorRef2
namespace Go.Proofs.YtjbnilippcdgeaaDoor
open Go.RowKit

theorem seal_is (A : Option Addr) (n c : Nat) (l : List Nat) (w : World) (hl : Holds w w.heap.size A n l) (hn : n ≤ 9223372036854775807) (hT : Tab w) :
    Calls Tryd.prog 8 #[.slice A n c] w (NewBytes w (sealed l)) := seal_any A n c _ l w hl (Nat.le_refl _) hn hT

set_option maxHeartbeats 8000000 in
set_option maxRecDepth 100000 in
theorem law_seals (A : Option Addr) (n c : Nat) (l : List Nat) (w : World) (hl : Holds w w.heap.size A n l) (hn : n ≤ 9223372036854775807) (hT : Tab w) :
    Calls Tryd.prog 3 #[.slice A n c] w fun e w' => e = .returned (.bool true) ∧ Below w.heap.size w w' := by
  have HL := hide hl
  have HT := hide hT
  clear hl hT
  by_cases h3 : 3000 < n
  · by_cases h6 : n ≤ 65536
    · go_enter Tryd.func3, Tryd.ntmps3
      go_wp2_with (fail)
      refine (lives_any _ HT.out).mono ?_
      rintro e w1 ⟨rfl, b1⟩
      go_wp2
      go_ret
      exact ⟨rfl, b1⟩
    · have L0 := hide (Later.drew w)
      obtain ⟨S1, hS1⟩ : ∃ S1, S1 = str (sealed l) := ⟨_, rfl⟩
      have HS1 := hide hS1
      have e1 : (S1.toList == S1.toList) = true := by simp
      clear hS1
      go_enter Tryd.func3, Tryd.ntmps3
      go_wp2
      refine wp_region_L (by kernel_rfl) ?_
      refine wpAnyL_take (i := 0) (d := some 12) (v := ?vap0) rfl rfl (by kernel_rfl) (by kernel_rfl) (by kernel_rfl) (fun _ _ _ h => h) (by rfl) ?yap0 ?_
      case yap0 => (intro w' hw'; go_simp; try (with_reducible rfl))
      simp only [Act.put, List.setIfInBounds_toArray, List.set_cons_zero, List.set_cons_succ]
      refine wpAnyL_take (i := 3) (d := some 15) (v := ?vap3) rfl rfl (by kernel_rfl) (by kernel_rfl) (by kernel_rfl) (fun _ _ _ h => h) (by rfl) ?yap3 ?_
      case yap3 => (intro w' hw'; go_simp; try (with_reducible rfl))
      simp only [Act.put, List.setIfInBounds_toArray, List.set_cons_zero, List.set_cons_succ]
      refine wpAnyL_only (i := 1) rfl (by kernel_rfl) (by rfl) fun K hK => ?_
      go_simp
      refine (seal_is A n c l _ (HL.out.later L0.out) hn (HT.out.later L0.out)).mono ?_
      rintro e w1 ⟨A1, n1, c1, rfl, _, h1, _, b1⟩
      have H1 := hide h1
      have L1 := hide (L0.out.trans b1)
      refine hK.out _ _ b1 ?_
      clear h1 b1
      clear hK K
      try simp only [Act.put, List.setIfInBounds_toArray, List.set_cons_zero, List.set_cons_succ]
      refine wpAnyL_take (i := 2) (d := some 14) (v := ?vap2) rfl rfl (by kernel_rfl) (by kernel_rfl) (by kernel_rfl) (fun _ _ _ h => h) (by rfl) ?yap2 ?_
      case yap2 => (intro w' hw'; have hc := run_str w' _ A1 n1 c1 _ (H1.out.later hw'); rw [← HS1.out] at hc; go_simp; try (with_reducible rfl))
      simp only [Act.put, List.setIfInBounds_toArray, List.set_cons_zero, List.set_cons_succ]
      refine wpAnyL_only (i := 4) rfl (by kernel_rfl) (by rfl) fun K hK => ?_
      go_simp
      refine (refseal_any A n c _ l _ (HL.out.later L1.out) (Nat.le_refl _) hn).mono ?_
      rintro e w2 ⟨A2, n2, c2, rfl, _, h2, _, b2⟩
      have H2 := hide h2
      have L2 := hide (L1.out.trans b2)
      refine hK.out _ _ b2 ?_
      clear h2 b2
      clear hK K
      try simp only [Act.put, List.setIfInBounds_toArray, List.set_cons_zero, List.set_cons_succ]
      refine wpAnyL_take (i := 5) (d := some 17) (v := ?vap5) rfl rfl (by kernel_rfl) (by kernel_rfl) (by kernel_rfl) (fun _ _ _ h => h) (by rfl) ?yap5 ?_
      case yap5 => (intro w' hw'; have hc := run_str w' _ A2 n2 c2 _ (H2.out.later hw'); rw [← HS1.out] at hc; go_simp; try (with_reducible rfl))
      simp only [Act.put, List.setIfInBounds_toArray, List.set_cons_zero, List.set_cons_succ]
      refine wpAnyL_take (i := 6) (d := some 18) (v := ?vap6) rfl rfl (by kernel_rfl) (by kernel_rfl) (by kernel_rfl) (fun _ _ _ h => h) (by rfl) ?yap6 ?_
      case yap6 => (intro w' hw'; go_simp; try (with_reducible rfl))
      simp only [Act.put, List.setIfInBounds_toArray, List.set_cons_zero, List.set_cons_succ]
      refine wpAnyL_take (i := 7) (d := some 19) (v := ?vap7) rfl rfl (by kernel_rfl) (by kernel_rfl) (by kernel_rfl) (fun _ _ _ h => h) (by rfl) ?yap7 ?_
      case yap7 => (intro w' hw'; go_simp; try (with_reducible rfl))
      simp only [Act.put, List.setIfInBounds_toArray, List.set_cons_zero, List.set_cons_succ]
      refine wpAnyL_take (i := 8) (d := some 20) (v := ?vap8) rfl rfl (by kernel_rfl) (by kernel_rfl) (by kernel_rfl) (fun _ _ _ h => h) (by rfl) ?yap8 ?_
      case yap8 => (intro w' hw'; go_simp; try (with_reducible rfl))
      simp only [Act.put, List.setIfInBounds_toArray, List.set_cons_zero, List.set_cons_succ]
      refine wpAnyL_take (i := 9) (d := some 21) (v := ?vap9) rfl rfl (by kernel_rfl) (by kernel_rfl) (by kernel_rfl) (fun _ _ _ h => h) (by rfl) ?yap9 ?_
      case yap9 => (intro w' hw'; go_simp; try (with_reducible rfl))
      simp only [Act.put, List.setIfInBounds_toArray, List.set_cons_zero, List.set_cons_succ]
      refine wpAnyL_take (i := 10) (d := some 22) (v := ?vap10) rfl rfl (by kernel_rfl) (by kernel_rfl) (by kernel_rfl) (fun _ _ _ h => h) (by rfl) ?yap10 ?_
      case yap10 => (intro w' hw'; go_simp; try (with_reducible rfl))
      simp only [Act.put, List.setIfInBounds_toArray, List.set_cons_zero, List.set_cons_succ]
      refine wpAnyL_take (i := 11) (d := some 23) (v := ?vap11) rfl rfl (by kernel_rfl) (by kernel_rfl) (by kernel_rfl) (fun _ _ _ h => h) (by rfl) ?yap11 ?_
      case yap11 => (intro w' hw'; go_simp; try (with_reducible rfl))
      simp only [Act.put, List.setIfInBounds_toArray, List.set_cons_zero, List.set_cons_succ]
      refine wpAnyL_pass (i := 12) (d := some 24) rfl rfl (by kernel_rfl) (by kernel_rfl) (by kernel_rfl) (fun _ _ _ h => h) (by rfl) ?_
      try simp only [Act.put, List.setIfInBounds_toArray, List.set_cons_zero, List.set_cons_succ]
      refine wpAnyL_pass (i := 14) (d := some 26) rfl rfl (by kernel_rfl) (by kernel_rfl) (by kernel_rfl) (fun _ _ _ h => h) (by rfl) ?_
      try simp only [Act.put, List.setIfInBounds_toArray, List.set_cons_zero, List.set_cons_succ]
      refine wpAnyL_pass (i := 13) (d := some 25) rfl rfl (by kernel_rfl) (by kernel_rfl) (by kernel_rfl) (fun _ _ _ h => h) (by rfl) ?_
      try simp only [Act.put, List.setIfInBounds_toArray, List.set_cons_zero, List.set_cons_succ]
      refine wpAnyL_pass (i := 15) (d := some 27) rfl rfl (by kernel_rfl) (by kernel_rfl) (by kernel_rfl) (fun _ _ _ h => h) (by rfl) ?_
      try simp only [Act.put, List.setIfInBounds_toArray, List.set_cons_zero, List.set_cons_succ]
      refine wpAnyL_pass (i := 16) (d := some 28) rfl rfl (by kernel_rfl) (by kernel_rfl) (by kernel_rfl) (fun _ _ _ h => h) (by rfl) ?_
      try simp only [Act.put, List.setIfInBounds_toArray, List.set_cons_zero, List.set_cons_succ]
      refine wpAnyL_take (i := 17) (d := some 29) (v := ?vap17) rfl rfl (by kernel_rfl) (by kernel_rfl) (by kernel_rfl) (fun _ _ _ h => h) (by rfl) ?yap17 ?_
      case yap17 => (intro w' hw'; go_simp; try (with_reducible rfl))
      simp only [Act.put, List.setIfInBounds_toArray, List.set_cons_zero, List.set_cons_succ]
      refine wpAnyL_take (i := 18) (d := some 30) (v := ?vap18) rfl rfl (by kernel_rfl) (by kernel_rfl) (by kernel_rfl) (fun _ _ _ h => h) (by rfl) ?yap18 ?_
      case yap18 => (intro w' hw'; go_simp; try (with_reducible rfl))
      simp only [Act.put, List.setIfInBounds_toArray, List.set_cons_zero, List.set_cons_succ]
      refine wpAnyL_take (i := 19) (d := some 31) (v := ?vap19) rfl rfl (by kernel_rfl) (by kernel_rfl) (by kernel_rfl) (fun _ _ _ h => h) (by rfl) ?yap19 ?_
      case yap19 => (intro w' hw'; go_simp; try (with_reducible rfl))
      simp only [Act.put, List.setIfInBounds_toArray, List.set_cons_zero, List.set_cons_succ]
      refine wpAnyL_only (i := 20) rfl (by kernel_rfl) (by rfl) fun K hK => ?_
      go_simp
      refine (lives_any _ (HT.out.later L2.out)).mono ?_
      rintro e w6 ⟨rfl, b6⟩
      have L6 := hide (L2.out.trans b6)
      refine hK.out _ _ b6 ?_
      clear b6
      clear hK K
      try simp only [Act.put, List.setIfInBounds_toArray, List.set_cons_zero, List.set_cons_succ]
      refine wpAnyL_take (i := 21) (d := some 33) (v := ?vap21) rfl rfl (by kernel_rfl) (by kernel_rfl) (by kernel_rfl) (fun _ _ _ h => h) (by rfl) ?yap21 ?_
      case yap21 => (intro w' hw'; go_simp; try (with_reducible rfl))
      simp only [Act.put, List.setIfInBounds_toArray, List.set_cons_zero, List.set_cons_succ]
      refine wpAnyL_take (i := 22) (d := some 2) (v := ?vap22) rfl rfl (by kernel_rfl) (by kernel_rfl) (by kernel_rfl) (fun _ _ _ h => h) (by rfl) ?yap22 ?_
      case yap22 => (intro w' hw'; go_simp; try (with_reducible rfl))
      simp only [Act.put, List.setIfInBounds_toArray, List.set_cons_zero, List.set_cons_succ]
      refine wpAnyL_done (by kernel_rfl) ?_ _
      go_wp2
      go_ret
      exact ⟨rfl, L6.out⟩
  · have L0 := hide (Later.drew w)
    obtain ⟨S1, hS1⟩ : ∃ S1, S1 = str (sealed l) := ⟨_, rfl⟩
    have HS1 := hide hS1
    have e1 : (S1.toList == S1.toList) = true := by simp
    clear hS1
    go_enter Tryd.func3, Tryd.ntmps3
    go_wp2
    refine wp_region_L (by kernel_rfl) ?_
    refine wpAnyL_take (i := 0) (d := some 12) (v := ?vaq0) rfl rfl (by kernel_rfl) (by kernel_rfl) (by kernel_rfl) (fun _ _ _ h => h) (by rfl) ?yaq0 ?_
    case yaq0 => (intro w' hw'; go_simp; try (with_reducible rfl))
    simp only [Act.put, List.setIfInBounds_toArray, List.set_cons_zero, List.set_cons_succ]
    refine wpAnyL_take (i := 3) (d := some 15) (v := ?vaq3) rfl rfl (by kernel_rfl) (by kernel_rfl) (by kernel_rfl) (fun _ _ _ h => h) (by rfl) ?yaq3 ?_
    case yaq3 => (intro w' hw'; go_simp; try (with_reducible rfl))
    simp only [Act.put, List.setIfInBounds_toArray, List.set_cons_zero, List.set_cons_succ]
    refine wpAnyL_only (i := 1) rfl (by kernel_rfl) (by rfl) fun K hK => ?_
    go_simp
    refine (seal_is A n c l _ (HL.out.later L0.out) hn (HT.out.later L0.out)).mono ?_
    rintro e w1 ⟨A1, n1, c1, rfl, _, h1, _, b1⟩
    have H1 := hide h1
    have L1 := hide (L0.out.trans b1)
    refine hK.out _ _ b1 ?_
    clear h1 b1
    clear hK K
    try simp only [Act.put, List.setIfInBounds_toArray, List.set_cons_zero, List.set_cons_succ]
    refine wpAnyL_take (i := 2) (d := some 14) (v := ?vaq2) rfl rfl (by kernel_rfl) (by kernel_rfl) (by kernel_rfl) (fun _ _ _ h => h) (by rfl) ?yaq2 ?_
    case yaq2 => (intro w' hw'; have hc := run_str w' _ A1 n1 c1 _ (H1.out.later hw'); rw [← HS1.out] at hc; go_simp; try (with_reducible rfl))
    simp only [Act.put, List.setIfInBounds_toArray, List.set_cons_zero, List.set_cons_succ]
    refine wpAnyL_only (i := 4) rfl (by kernel_rfl) (by rfl) fun K hK => ?_
    go_simp
    refine (refseal_any A n c _ l _ (HL.out.later L1.out) (Nat.le_refl _) hn).mono ?_
    rintro e w2 ⟨A2, n2, c2, rfl, _, h2, _, b2⟩
    have H2 := hide h2
    have L2 := hide (L1.out.trans b2)
    refine hK.out _ _ b2 ?_
    clear h2 b2
    clear hK K
    try simp only [Act.put, List.setIfInBounds_toArray, List.set_cons_zero, List.set_cons_succ]
    refine wpAnyL_take (i := 5) (d := some 17) (v := ?vaq5) rfl rfl (by kernel_rfl) (by kernel_rfl) (by kernel_rfl) (fun _ _ _ h => h) (by rfl) ?yaq5 ?_
    case yaq5 => (intro w' hw'; have hc := run_str w' _ A2 n2 c2 _ (H2.out.later hw'); rw [← HS1.out] at hc; go_simp; try (with_reducible rfl))
    simp only [Act.put, List.setIfInBounds_toArray, List.set_cons_zero, List.set_cons_succ]
    refine wpAnyL_take (i := 6) (d := some 18) (v := ?vaq6) rfl rfl (by kernel_rfl) (by kernel_rfl) (by kernel_rfl) (fun _ _ _ h => h) (by rfl) ?yaq6 ?_
    case yaq6 => (intro w' hw'; go_simp; try (with_reducible rfl))
    simp only [Act.put, List.setIfInBounds_toArray, List.set_cons_zero, List.set_cons_succ]
    refine wpAnyL_take (i := 7) (d := some 19) (v := ?vaq7) rfl rfl (by kernel_rfl) (by kernel_rfl) (by kernel_rfl) (fun _ _ _ h => h) (by rfl) ?yaq7 ?_
    case yaq7 => (intro w' hw'; go_simp; try (with_reducible rfl))
    simp only [Act.put, List.setIfInBounds_toArray, List.set_cons_zero, List.set_cons_succ]
    refine wpAnyL_take (i := 8) (d := some 20) (v := ?vaq8) rfl rfl (by kernel_rfl) (by kernel_rfl) (by kernel_rfl) (fun _ _ _ h => h) (by rfl) ?yaq8 ?_
    case yaq8 => (intro w' hw'; go_simp; try (with_reducible rfl))
    simp only [Act.put, List.setIfInBounds_toArray, List.set_cons_zero, List.set_cons_succ]
    refine wpAnyL_take (i := 9) (d := some 21) (v := ?vaq9) rfl rfl (by kernel_rfl) (by kernel_rfl) (by kernel_rfl) (fun _ _ _ h => h) (by rfl) ?yaq9 ?_
    case yaq9 => (intro w' hw'; go_simp; try (with_reducible rfl))
    simp only [Act.put, List.setIfInBounds_toArray, List.set_cons_zero, List.set_cons_succ]
    refine wpAnyL_take (i := 10) (d := some 22) (v := ?vaq10) rfl rfl (by kernel_rfl) (by kernel_rfl) (by kernel_rfl) (fun _ _ _ h => h) (by rfl) ?yaq10 ?_
    case yaq10 => (intro w' hw'; have hd : decide ((65536 : Int) < (n : Int)) = false := decide_eq_false (by omega); go_simp; try (with_reducible rfl))
    simp only [Act.put, List.setIfInBounds_toArray, List.set_cons_zero, List.set_cons_succ]
    refine wpAnyL_take (i := 11) (d := some 23) (v := ?vaq11) rfl rfl (by kernel_rfl) (by kernel_rfl) (by kernel_rfl) (fun _ _ _ h => h) (by rfl) ?yaq11 ?_
    case yaq11 => (intro w' hw'; go_simp; try (with_reducible rfl))
    simp only [Act.put, List.setIfInBounds_toArray, List.set_cons_zero, List.set_cons_succ]
    refine wpAnyL_take (i := 12) (d := some 24) (v := ?vaq12) rfl rfl (by kernel_rfl) (by kernel_rfl) (by kernel_rfl) (fun _ _ _ h => h) (by rfl) ?yaq12 ?_
    case yaq12 => (intro w' hw'; go_simp; try (with_reducible rfl))
    simp only [Act.put, List.setIfInBounds_toArray, List.set_cons_zero, List.set_cons_succ]
    refine wpAnyL_take (i := 14) (d := some 26) (v := ?vaq14) rfl rfl (by kernel_rfl) (by kernel_rfl) (by kernel_rfl) (fun _ _ _ h => h) (by rfl) ?yaq14 ?_
    case yaq14 => (intro w' hw'; go_simp; try (with_reducible rfl))
    simp only [Act.put, List.setIfInBounds_toArray, List.set_cons_zero, List.set_cons_succ]
    refine wpAnyL_only (i := 13) rfl (by kernel_rfl) (by rfl) fun K hK => ?_
    go_simp
    refine (sum_any A n c _ l _ (HL.out.later L2.out) (by omega) (HT.out.later L2.out)).mono ?_
    rintro e w3 ⟨rfl, rfl⟩
    refine hK.out _ _ (Later.refl _) ?_
    clear hK K
    try simp only [Act.put, List.setIfInBounds_toArray, List.set_cons_zero, List.set_cons_succ]
    refine wpAnyL_only (i := 15) rfl (by kernel_rfl) (by rfl) fun K hK => ?_
    go_simp
    refine (refsum_any A n c _ l _ (HL.out.later L2.out) (by omega)).mono ?_
    rintro e w3 ⟨rfl, rfl⟩
    refine hK.out _ _ (Later.refl _) ?_
    clear hK K
    try simp only [Act.put, List.setIfInBounds_toArray, List.set_cons_zero, List.set_cons_succ]
    refine wpAnyL_take (i := 16) (d := some 28) (v := ?vaq16) rfl rfl (by kernel_rfl) (by kernel_rfl) (by kernel_rfl) (fun _ _ _ h => h) (by rfl) ?yaq16 ?_
    case yaq16 => (intro w' hw'; go_simp; try (with_reducible rfl))
    simp only [Act.put, List.setIfInBounds_toArray, List.set_cons_zero, List.set_cons_succ]
    refine wpAnyL_take (i := 17) (d := some 29) (v := ?vaq17) rfl rfl (by kernel_rfl) (by kernel_rfl) (by kernel_rfl) (fun _ _ _ h => h) (by rfl) ?yaq17 ?_
    case yaq17 => (intro w' hw'; go_simp; try (with_reducible rfl))
    simp only [Act.put, List.setIfInBounds_toArray, List.set_cons_zero, List.set_cons_succ]
    refine wpAnyL_take (i := 18) (d := some 30) (v := ?vaq18) rfl rfl (by kernel_rfl) (by kernel_rfl) (by kernel_rfl) (fun _ _ _ h => h) (by rfl) ?yaq18 ?_
    case yaq18 => (intro w' hw'; go_simp; try (with_reducible rfl))
    simp only [Act.put, List.setIfInBounds_toArray, List.set_cons_zero, List.set_cons_succ]
    refine wpAnyL_take (i := 19) (d := some 31) (v := ?vaq19) rfl rfl (by kernel_rfl) (by kernel_rfl) (by kernel_rfl) (fun _ _ _ h => h) (by rfl) ?yaq19 ?_
    case yaq19 => (intro w' hw'; go_simp; try (with_reducible rfl))
    simp only [Act.put, List.setIfInBounds_toArray, List.set_cons_zero, List.set_cons_succ]
    refine wpAnyL_only (i := 20) rfl (by kernel_rfl) (by rfl) fun K hK => ?_
    go_simp
    refine (lives_any _ (HT.out.later L2.out)).mono ?_
    rintro e w6 ⟨rfl, b6⟩
    have L6 := hide (L2.out.trans b6)
    refine hK.out _ _ b6 ?_
    clear b6
    clear hK K
    try simp only [Act.put, List.setIfInBounds_toArray, List.set_cons_zero, List.set_cons_succ]
    refine wpAnyL_take (i := 21) (d := some 33) (v := ?vaq21) rfl rfl (by kernel_rfl) (by kernel_rfl) (by kernel_rfl) (fun _ _ _ h => h) (by rfl) ?yaq21 ?_
    case yaq21 => (intro w' hw'; go_simp; try (with_reducible rfl))
    simp only [Act.put, List.setIfInBounds_toArray, List.set_cons_zero, List.set_cons_succ]
    refine wpAnyL_take (i := 22) (d := some 2) (v := ?vaq22) rfl rfl (by kernel_rfl) (by kernel_rfl) (by kernel_rfl) (fun _ _ _ h => h) (by rfl) ?yaq22 ?_
    case yaq22 => (intro w' hw'; go_simp; try (with_reducible rfl))
    simp only [Act.put, List.setIfInBounds_toArray, List.set_cons_zero, List.set_cons_succ]
    refine wpAnyL_done (by kernel_rfl) ?_ _
    go_wp2
    go_ret
    exact ⟨rfl, L6.out⟩
end Go.Proofs.YtjbnilippcdgeaaDoor
