/- The law's spoil: it writes integers into the blocks of a message's lists, and nothing else. -/
import Derived.Test.YtaimnhlpdkpobaaRefCopy
import Derived.Test.YtaimnhlpdkpobaaBag
namespace Go.Proofs.Ytaimnhlpdkpobaa
open Go.RowKit

/-- From w to w' only cells of S's blocks have turned, integers into integers. -/
structure Spoilt (S : Nat → Prop) (w w' : World) : Prop where
  turned : Turned S w w'
  cell : ∀ b o v, w.cell? ⟨b, o, none⟩ = some v → ∃ v', w'.cell? ⟨b, o, none⟩ = some v' ∧ (v' = v ∨ ∃ x y, v = .int .i64 x ∧ v' = .int .i64 y)
  frozen : ∀ b o, w.frozen? ⟨b, o, none⟩ = false → w'.frozen? ⟨b, o, none⟩ = false
section
variable {S : Nat → Prop} {w a b c : World}
theorem Spoilt.refl (S : Nat → Prop) (w : World) : Spoilt S w w := ⟨Turned.refl S w, fun _ _ v h => ⟨v, h, .inl rfl⟩, fun _ _ h => h⟩
/-- An integer is still one. -/
theorem Spoilt.int (h : Spoilt S a b) {g o : Nat} {x : Int} (hc : a.cell? ⟨g, o, none⟩ = some (.int .i64 x)) : ∃ y, b.cell? ⟨g, o, none⟩ = some (.int .i64 y) := by
  obtain ⟨v', h1, rfl | ⟨x', y, _, rfl⟩⟩ := h.cell g o _ hc
  · exact ⟨x, h1⟩
  · exact ⟨y, h1⟩
theorem Spoilt.slice (h : Spoilt S a b) {g o n k : Nat} {A : Option Addr} (hc : a.cell? ⟨g, o, none⟩ = some (.slice A n k)) : b.cell? ⟨g, o, none⟩ = some (.slice A n k) := by
  obtain ⟨v', h1, rfl | ⟨x', y, e, _⟩⟩ := h.cell g o _ hc
  · exact h1
  · cases e
theorem Spoilt.store (h : Spoilt S a b) {g o : Nat} {x : Int} (hc : b.cell? ⟨g, o, none⟩ = some (.int .i64 x)) (hg : S g) (y : Int) : Spoilt S a (b.setCell ⟨g, o, none⟩ (.int .i64 y)) := by
  refine ⟨h.turned.trans (Turned.of_grown (grown_set b g o _) fun g' e => by rw [← Option.some.inj e]; exact hg), fun g' o' v hv => ?_, fun g' o' hf => by rw [World.frozen?_setCell]; exact h.frozen g' o' hf⟩
  obtain ⟨v', h1, h2⟩ := h.cell g' o' v hv
  by_cases e : (⟨g', o', none⟩ : Addr) = ⟨g, o, none⟩
  · injection e with e1 e2 _
    subst e1 e2
    refine ⟨_, World.cell?_setCell_same b _ _ hc, .inr ?_⟩
    rw [hc] at h1
    obtain rfl := Option.some.inj h1
    rcases h2 with e3 | ⟨x', y', e4, _⟩
    · exact ⟨x, y, e3.symm, rfl⟩
    · exact ⟨x', y, e4, rfl⟩
  · exact ⟨v', by rw [World.cell?_setCell_other _ _ _ _ (Ne.symm e)]; exact h1, h2⟩
end
set_option maxHeartbeats 2000000 in
set_option maxRecDepth 100000 in
theorem spoil_any (S : Nat → Prop) (m : MsgD) (s o i : Value) (ps : List (OpD × Value)) (w : World) (hs : StepsAt S w s m.op.steps) (ho : OpsIn S w o ps) (hi : IncsAt S w i m.incs)
    (fs : Free S w s) (fo : Free S w o) (fi : Free S w i) (fp : ∀ p ∈ ps, Free S w p.2) (hSw : ∀ b, S b → b < w.heap.size) :
    Calls Try.prog 32 #[.agg (m.cells s o i).toArray] w fun e w' => e = .returned (.tuple #[]) ∧ Turned S w w' := by
  obtain ⟨sA, sc, rfl, hsc, hsc2, _⟩ := FlatAt.shape hs
  obtain ⟨oA, oc, rfl, hoc, hoc2, _⟩ := FlatAt.shape ho.1
  obtain ⟨iA, ic, rfl, hic, hic2, _⟩ := FlatAt.shape hi
  unfold maxLen at hsc2 hoc2 hic2
  have hW : Below w.heap.size w (w.alloc (.cells (m.cells (.slice sA m.op.steps.length sc) (.slice oA ps.length oc) (.slice iA m.incs.length ic)).toArray 42 (0, 0))) := (Below.refl _ _).alloc (Nat.le_refl _) _
  obtain ⟨W, hWE⟩ : ∃ W, W = w.alloc (.cells (m.cells (.slice sA m.op.steps.length sc) (.slice oA ps.length oc) (.slice iA m.incs.length ic)).toArray 42 (0, 0)) := ⟨_, rfl⟩
  rw [← hWE] at hW
  have fW : ∀ b j, b < w.heap.size → W.frozen? ⟨b, j, none⟩ = w.frozen? ⟨b, j, none⟩ := fun b j hb => by rw [hWE]; exact World.frozen?_alloc_past _ _ _ hb
  have HSS : Hid (∀ k, k < m.op.steps.length → ∃ b off x, sA = some ⟨b, off, none⟩ ∧ S b ∧ b < W.heap.size ∧ W.cell? ⟨b, off + k * 6 + 1, none⟩ = some (.int .i64 x) ∧ (∀ j, W.frozen? ⟨b, j, none⟩ = false)) := fun k hk => by
    obtain ⟨st, b, off, c, _, hv, _, hS, hb, hr⟩ := StepsAt.at_ hs hk
    obtain ⟨rfl, rfl⟩ : sA = some ⟨b, off, none⟩ ∧ sc = c := by injection hv with e1 _ e3; exact ⟨e1, e3⟩
    have h1 := (range_step hr).2.1
    exact ⟨b, off, _, rfl, hS, Nat.lt_of_lt_of_le hb hW.size, ((Kept.of_below hW (fun _ => True)).cell hb trivial).trans h1, fun j => (fW b j hb).trans (fs.frozen b off _ _ rfl j)⟩
  have HII : Hid (∀ k, k < m.incs.length → ∃ b off x, iA = some ⟨b, off, none⟩ ∧ S b ∧ b < W.heap.size ∧ W.cell? ⟨b, off + k, none⟩ = some (.int .i64 x) ∧ (∀ j, W.frozen? ⟨b, j, none⟩ = false)) := fun k hk => by
    obtain ⟨x, b, off, c, _, hv, _, hS, hb, hr⟩ := IncsAt.at_ hi hk
    obtain ⟨rfl, rfl⟩ : iA = some ⟨b, off, none⟩ ∧ ic = c := by injection hv with e1 _ e3; exact ⟨e1, e3⟩
    exact ⟨b, off, _, rfl, hS, Nat.lt_of_lt_of_le hb hW.size, ((Kept.of_below hW (fun _ => True)).cell hb trivial).trans hr, fun j => (fW b j hb).trans (fi.frozen b off _ _ rfl j)⟩
  have HOO : Hid (∀ k, k < ps.length → ∃ b off x xA xn xc, oA = some ⟨b, off, none⟩ ∧ S b ∧ b < W.heap.size ∧ W.cell? ⟨b, off + k * 10 + 5, none⟩ = some (.int .i64 x) ∧ (∀ j, W.frozen? ⟨b, j, none⟩ = false) ∧
      W.cell? ⟨b, off + k * 10 + 4, none⟩ = some (.slice xA xn xc) ∧ xn ≤ xc ∧ xc ≤ 2 ^ 63 - 1 ∧
      ∀ l, l < xn → ∃ b2 off2 x2, xA = some ⟨b2, off2, none⟩ ∧ S b2 ∧ b2 < W.heap.size ∧ W.cell? ⟨b2, off2 + l * 6 + 3, none⟩ = some (.int .i64 x2) ∧ (∀ j, W.frozen? ⟨b2, j, none⟩ = false)) := fun k hk => by
    obtain ⟨x, xs, b, off, c, hx, hv, _, hS, hb, hr, hxs⟩ := OpsIn.at_ ho hk
    obtain ⟨rfl, rfl⟩ : oA = some ⟨b, off, none⟩ ∧ oc = c := by injection hv with e1 _ e3; exact ⟨e1, e3⟩
    obtain ⟨_, _, _, _, r4, r5, _⟩ := range_op hr
    obtain ⟨xA, xc, rfl, hxc, hxc2, _⟩ := FlatAt.shape hxs
    unfold maxLen at hxc2
    have kc : ∀ {b o : Nat} {v : Value}, b < w.heap.size → w.cell? ⟨b, o, none⟩ = some v → W.cell? ⟨b, o, none⟩ = some v := fun hb h => ((Kept.of_below hW (fun _ => True)).cell hb trivial).trans h
    refine ⟨b, off, _, xA, _, xc, rfl, hS, Nat.lt_of_lt_of_le hb hW.size, kc hb r5, fun j => (fW b j hb).trans (fo.frozen b off _ _ rfl j), kc hb r4, hxc, hxc2, fun l hl => ?_⟩
    obtain ⟨st, b2, off2, c2, _, hv2, _, hS2, hb2, hr2⟩ := StepsAt.at_ hxs hl
    obtain ⟨rfl, rfl⟩ : xA = some ⟨b2, off2, none⟩ ∧ xc = c2 := by injection hv2 with e1 _ e3; exact ⟨e1, e3⟩
    have h1 := (range_step hr2).2.2.2.1
    exact ⟨b2, off2, _, rfl, hS2, Nat.lt_of_lt_of_le hb2 hW.size, kc hb2 h1, fun j => (fW b2 j hb2).trans ((fp _ (List.mem_of_getElem? hx)).frozen b2 off2 _ _ rfl j)⟩
  have BOX : Hid (W.heap[w.heap.size]? = some (.cells (m.cells (.slice sA m.op.steps.length sc) (.slice oA ps.length oc) (.slice iA m.incs.length ic)).toArray 42 (0, 0))) := by
    show _ = _
    rw [hWE]
    exact heap_alloc_new _ _
  have HW := hide hW
  have HWE := hide hWE
  have HNS := hide hSw
  obtain ⟨ns, hns⟩ : ∃ n, m.op.steps.length = n := ⟨_, rfl⟩
  obtain ⟨no, hno⟩ : ∃ n, ps.length = n := ⟨_, rfl⟩
  obtain ⟨ni, hni⟩ : ∃ n, m.incs.length = n := ⟨_, rfl⟩
  rw [hns, hno, hni] at BOX HWE
  rw [hns] at HSS hsc
  rw [hno] at HOO hoc
  rw [hni] at HII hic
  have hSB : ∀ g, S g → g ≠ w.heap.size := fun g hg e => by have := hSw g hg; omega
  have HSB := hide hSB
  -- the message's own box, in each later world
  have BX : ∀ wr, Spoilt S W wr → wr.heap[w.heap.size]? = some (.cells (m.cells (.slice sA ns sc) (.slice oA no oc) (.slice iA ni ic)).toArray 42 (0, 0)) := fun wr h => (h.turned.block _ (lt_of_block BOX.out) (fun e => HSB.out _ e rfl)).trans BOX.out
  have HBX := hide BX
  clear hs ho hi fs fo fi fp hSw hW hWE fW hSB BX
  unfold MsgD.cells at HWE
  unfold MsgD.cells
  go_enter Try.func32, Try.ntmps32
  rw [hns, hno, hni]
  have HNS := hide hns
  clear hns hno hni
  have c33 := box_cell BOX.out 33 (.slice iA ni ic) (by rfl)
  rw [HWE.out] at c33
  go_wp2
  rw [← HWE.out]
  clear c33
  go_loopw [9] (fun j wr => ∃ k : Nat, k ≤ ni ∧ j = .int .i64 (k : Int) ∧ Spoilt S W wr) (fun j _ => ni - (Go.RowKit.intOf j).toNat)
  case atStart => exact ⟨0, by omega, rfl, Spoilt.refl S W⟩
  case round =>
    obtain ⟨k, hk, rfl, hrel⟩ := hrel
    have REL := hide hrel
    clear hrel
    by_cases hkn : k < ni
    · obtain ⟨b, off, x, rfl, hS, hb, hc, hf⟩ := HII.out k hkn
      obtain ⟨y, hy⟩ := REL.out.int hc
      have hfr := REL.out.frozen b (off + k) (hf _)
      have c33 := box_cell (HBX.out wr REL.out) 33 (.slice (some ⟨b, off, none⟩) ni ic) (by rfl)
      have HS1 := hide hS
      have HY := hide hy
      clear hc hf hS
      go_wp2
      all_goals go_roundw
      case rel => exact ⟨k + 1, by omega, by go_num, REL.out.store HY.out HS1.out _⟩
      case measure => simp [Go.RowKit.intOf]; omega
    · obtain rfl : k = ni := by omega
      have c16 := box_cell (HBX.out wr REL.out) 16 (.slice sA ns sc) (by rfl)
      go_wp2
      clear c16
      have REL1 := hide REL.out
      clear REL
      go_loopw [25] (fun j wr => ∃ k : Nat, k ≤ ns ∧ j = .int .i64 (k : Int) ∧ Spoilt S W wr) (fun j _ => ns - (Go.RowKit.intOf j).toNat)
      case atStart => exact ⟨0, by omega, rfl, REL1.out⟩
      case round =>
        obtain ⟨q, hq, rfl, hrel⟩ := hrel
        have REL := hide hrel
        clear hrel
        by_cases hqn : q < ns
        · obtain ⟨b, off, x, rfl, hS, hb, hc, hf⟩ := HSS.out q hqn
          obtain ⟨y, hy⟩ := REL.out.int hc
          have hfr := REL.out.frozen b (off + q * 6 + 1) (hf _)
          have c16 := box_cell (HBX.out _ REL.out) 16 (.slice (some ⟨b, off, none⟩) ns sc) (by rfl)
          have HS1 := hide hS
          have HY := hide hy
          clear hc hf hS
          go_wp2
          all_goals go_roundw
          case rel => exact ⟨q + 1, by omega, by go_num, REL.out.store HY.out HS1.out _⟩
          case measure => simp [Go.RowKit.intOf]; omega
        · obtain rfl : q = ns := by omega
          have c32 := box_cell (HBX.out _ REL.out) 32 (.slice oA no oc) (by rfl)
          go_wp2
          clear c32
          have REL2 := hide REL.out
          clear REL REL1
          go_loopw [43] (fun j wr => ∃ k : Nat, k ≤ no ∧ j = .int .i64 (k : Int) ∧ Spoilt S W wr) (fun j _ => no - (Go.RowKit.intOf j).toNat)
          case atStart => exact ⟨0, by omega, rfl, REL2.out⟩
          case round =>
            obtain ⟨r, hr, rfl, hrel⟩ := hrel
            have REL := hide hrel
            clear hrel REL2
            by_cases hrn : r < no
            · obtain ⟨b, off, x, xA, xn, xc, rfl, hS, hb, hc, hf, hx, hxc, hxc2, hel⟩ := HOO.out r hrn
              obtain ⟨y, hy⟩ := REL.out.int hc
              have hfr := REL.out.frozen b (off + r * 10 + 5) (hf _)
              have c32 := box_cell (HBX.out _ REL.out) 32 (.slice (some ⟨b, off, none⟩) no oc) (by rfl)
              have d32 : ∀ y' : Int, (World.setCell _ ⟨b, off + r * 10 + 5, none⟩ (.int .i64 y')).cell? ⟨w.heap.size, 32, none⟩ = some (.slice (some ⟨b, off, none⟩) no oc) := fun y' => box_cell (HBX.out _ (REL.out.store hy hS y')) 32 (.slice (some ⟨b, off, none⟩) no oc) (by rfl)
              have d4 : ∀ y' : Int, (World.setCell _ ⟨b, off + r * 10 + 5, none⟩ (.int .i64 y')).cell? ⟨b, off + r * 10 + 4, none⟩ = some (.slice xA xn xc) := fun y' => (REL.out.store hy hS y').slice hx
              have HS1 := hide hS
              have HY := hide hy
              have HX := hide hx
              have HEL := hide hel
              have HR := hide REL.out
              clear hc hf hS hx hel REL
              go_wp2
              clear c32 d32 d4 hy hfr
              go_loopw [63] (fun j wr => ∃ k : Nat, k ≤ xn ∧ j = .int .i64 (k : Int) ∧ Spoilt S W wr) (fun j _ => xn - (Go.RowKit.intOf j).toNat)
              case atStart => exact ⟨0, by omega, rfl, HR.out.store HY.out HS1.out _⟩
              case round =>
                obtain ⟨l, hl, rfl, hrel⟩ := hrel
                have REL := hide hrel
                clear hrel
                have c32 := box_cell (HBX.out _ REL.out) 32 (.slice (some ⟨b, off, none⟩) no oc) (by rfl)
                have d4 := REL.out.slice HX.out
                by_cases hln : l < xn
                · obtain ⟨b2, off2, x2, rfl, hS2, hb2, hc2, hf2⟩ := HEL.out l hln
                  obtain ⟨y2, hy2⟩ := REL.out.int hc2
                  have hfr2 := REL.out.frozen b2 (off2 + l * 6 + 3) (hf2 _)
                  have HS2 := hide hS2
                  have HY2 := hide hy2
                  clear hc2 hf2 hS2
                  go_wp2
                  all_goals go_roundw
                  case rel => exact ⟨l + 1, by omega, by go_num, REL.out.store HY2.out HS2.out _⟩
                  case measure => simp [Go.RowKit.intOf]; omega
                · obtain rfl : l = xn := by omega
                  go_wp2
                  all_goals go_roundw
                  case rel => exact ⟨r + 1, by omega, by go_num, REL.out⟩
                  case measure => simp [Go.RowKit.intOf]; omega
            · obtain rfl : r = no := by omega
              go_wp2
              go_end0
              exact ⟨rfl, (Turned.of_below HW.out S).trans REL.out.turned⟩
end Go.Proofs.Ytaimnhlpdkpobaa
