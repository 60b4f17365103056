/- The walk over droverlaw06.light: not too many acts, none too great. -/
import Derived.Test.YtehcaigkohkbnaaLives6
import Derived.Test.YtehcaigkohkbnaaOpenA6
import Derived.Test.YtehcaigkohkbnaaLitW
import Derived.Test.YtehcaigkohkbnaaChain
namespace Go.Proofs.Ytehcaigkohkbnaa
open Go.RowKit

/-- An act that is not too great. -/
def ActD.ok (a : ActD) : Prop := SmallOps a.ops ∧ a.op.steps.length ≤ 300
def Lights (ps : List ActV) (w : World) (e : Ending) (w' : World) : Prop :=
  ∃ b : Bool, e = .returned (.bool b) ∧ (b = true → ps.length ≤ 50 ∧ ∀ p ∈ ps, p.a.ok) ∧ Below w.heap.size w w'
def UpTo (ps : List ActV) (k : Nat) : Prop := ∀ p ∈ ps.take k, p.a.ok
theorem upTo_step {ps : List ActV} {k : Nat} {x : ActV} (hx : ps[k]? = some x) (h : UpTo ps k) (hs : x.a.ok) : UpTo ps (k + 1) := by
  intro p hp
  rw [List.take_add_one, hx] at hp
  rcases List.mem_append.1 hp with hp | hp
  · exact h p hp
  · obtain rfl : p = x := by simpa using hp
    exact hs
def actZero : Array Value := (⟨⟨0, 0, .zero, []⟩, .slice none 0 0, .slice none 0 0⟩ : ActV).cells.toArray
theorem put_act (p : ActV) : putAt actZero 0 p.cells = p.cells.toArray := by simp [actZero, ActV.cells, ActD.cells, putAt]
/-- A literal of one operation, at an operation of a region. -/
theorem exec_one {P : Program} {op : Oper} {a : Act} {w : World} (t e : TypeId) (x : Operand) (ho : op.op = .buildSlice t 1 #[(0, x)]) (i : TypeInfo) (z : Value) (k : Nat) (ht : P.underlying t = some (.slice e)) (hi : P.info? e = some i) (hz : i.zero = some z) (hs : i.size = k) (hk : 0 < k) (hk2 : k ≤ 16777216)
    (cells : Array Value) (hx : a.eval x = .agg cells) (hc : cells.size = k) : (execOp a.eval op).run P w = .ok (.value (.slice (some ⟨w.heap.size, 0, none⟩) 1 1)) (w.alloc (.cells cells e (0, 0))) := by
  have hr := run_buildSlice_one (P := P) (w := w) t e i z k ht hi hz hs hk hk2 cells hc
  simp [execOp, ho, hx, hr, Result.andThen]
theorem one_op (F : Nat → Prop) (o : OpD) (s : Value) (w w' : World) (h : StepsAt F w s o.steps) (hb : Below w.heap.size w w') (g : Nat) (hg : w'.heap[g]? = some (.cells (o.cells s).toArray 33 (0, 0))) : OpsAt (fun i => F i ∨ i = g) w' (.slice (some ⟨g, 0, none⟩) 1 1) [o] := by
  refine ⟨[(o, s)], rfl, ⟨rfl, ?_, some ⟨g, 0, none⟩, 1, rfl, Nat.le_refl _, by decide, (fun e => by cases e), fun _ => ⟨g, 0, rfl, .inr rfl, lt_of_block hg, fun j u hj => ?_⟩⟩, fun p hp => ?_⟩
  · intro u hu
    obtain ⟨p, hp, h1⟩ := List.mem_flatMap.1 hu
    obtain rfl : p = (o, s) := by simpa using hp
    exact o.one (FlatAt.oneCell h) u h1
  · rw [Nat.zero_add, cell_of_row _ _ j _ _ _ hg]
    simpa using hj
  · obtain rfl : p = (o, s) := by simpa using hp
    exact (h.kept (Kept.of_below hb F)).mono fun _ _ hf => .inl hf

set_option maxHeartbeats 2000000 in
set_option maxRecDepth 100000 in
theorem light_any (F : Nat → Prop) (v : Value) (ps : List ActV) (w : World) (h : ActsIn F w v ps) (hw : ∀ p ∈ ps, p.a.wf) :
    Calls Try.prog 25 #[v] w (Lights ps w) := by
  obtain ⟨i0, hi, hz0, hz1, hz2⟩ := info_parts Try.infoOp
  obtain ⟨A, c, rfl, h1, h2, _⟩ := FlatAt.shape h.1
  unfold maxLen at h2
  have H := hide h
  have HW := hide hw
  clear h hw
  by_cases hlong : 50 < ps.length
  · go_enter Try.func25, Try.ntmps25
    go_wp2
    go_ret
    exact ⟨false, rfl, by simp, Below.refl _ _⟩
  · go_enter Try.func25, Try.ntmps25
    go_wp2
    go_loopw [10] (fun j wr => ∃ k : Nat, k ≤ ps.length ∧ j = .int .i64 (k : Int) ∧ UpTo ps k ∧ Below w.heap.size w wr) (fun j _ => ps.length - (Go.RowKit.intOf j).toNat)
    case atStart => exact ⟨0, by omega, rfl, fun p hp => by simp at hp, Below.refl _ _⟩
    case round =>
      obtain ⟨k, hk, rfl, hup, hb⟩ := hrel
      have HU := hide hup
      have HB := hide hb
      clear hup hb
      by_cases hkn : k < ps.length
      · obtain ⟨x, b, off, c', hx, hv, _, _, _, hr, hli⟩ := ActsIn.at_ (H.out.kept (Kept.of_below HB.out F)) (k := k) hkn
        obtain ⟨rfl, rfl⟩ : A = some ⟨b, off, none⟩ ∧ c = c' := by injection hv with e1 _ e3; exact ⟨e1, e3⟩
        have hwx := HW.out x (List.mem_of_getElem? hx)
        have HX := hide hx
        have HR := hide hr
        obtain ⟨⟨a0, a1, op, ops⟩, s, o⟩ := x
        obtain ⟨k1, k2⟩ := hli.cell
        have C := hide (fun w' (hb : Below wr.heap.size wr w') => small_any F o ops w' (hli.2.kept (Kept.of_below hb F)) hwx.2.2.2)
        have HST := hide (show StepsAt F wr s op.steps from hli.1)
        have HWO := hide hwx.2.2.1
        have HZ : Hid ((wr.alloc (.cells actZero 71 (0, 0))).heap[wr.heap.size]? = some (.cells actZero 71 (0, 0))) := heap_alloc_new _ _
        clear hx hv hr hli hwx
        go_wp2_with (first
          | (refine wpList_load_mid (by rfl) 71 _ (by rfl) b (off + k * 13) (by rfl) _ _ HR.out Try.underlying71 (by rfl) (by kernel_rfl) ?_)
          | (refine wpList_store_box (by rfl) 71 _ _ (by rfl) wr.heap.size 0 (ActV.cells ⟨⟨a0, a1, op, ops⟩, s, o⟩).toArray (by rfl) (by rfl) 71 actZero HZ.out (by kernel_rfl) (by exact Nat.le_of_ble_eq_true rfl) (by exact act_one _ k1 k2) ?_; intro w2 hb2 hg2; rw [put_act] at hb2; have f12 := box_cell hb2 12 o (by rfl)))
        have hB2 : Below wr.heap.size wr w2 := ((Below.refl _ _).alloc (Nat.le_refl _) _).grown hg2 (by simp) (fun k hk => by have := Option.some.inj hk; omega)
        refine (C.out w2 hB2).mono ?_
        rintro e w3 ⟨q, rfl, hq, hb3⟩
        have X3 : Hid (w3.heap[wr.heap.size]? = some (.cells (ActV.cells ⟨⟨a0, a1, op, ops⟩, s, o⟩).toArray 71 (0, 0))) := (Below.block hb3 _ (lt_of_block hb2)).trans hb2
        have HB23 : Hid (Below wr.heap.size wr w3) := hB2.trans (Below.mono hb3 hB2.size)
        have HQ := hide hq
        clear hb2 hg2 hB2 hb3 f12 hq C
        cases q with
        | false =>
          go_wp2
          go_ret
          exact ⟨false, rfl, by simp, HB.out.trans (HB23.out.mono HB.out.size)⟩
        | true =>
          have hone := one_op F op s wr (w3.alloc (.cells (op.cells s).toArray 33 (0, 0))) HST.out (HB23.out.alloc HB23.out.size _) w3.heap.size (heap_alloc_new _ _)
          have C2 := hide (small_any _ _ [op] _ hone (fun x hx => by rw [List.mem_singleton.1 hx]; exact HWO.out))
          clear hone
          go_wp2_with (first
            | (refine wpList_val rfl (by rfl) (exec_load_box 33 _ (by rfl) wr.heap.size 2 (by rfl) 71 _ X3.out 10 _ Try.underlying33 (by rfl) (by kernel_rfl) (op.cells s) (by rfl) (by rfl)) ?_)
            | (refine wpList_val rfl (by rfl) (exec_one 39 33 _ (by rfl) i0 _ 10 Try.underlying39 hi hz0 hz1 (by decide) (by decide) (op.cells s).toArray (by rfl) (by rfl)) ?_))
          refine C2.out.mono ?_
          rintro e w4 ⟨q, rfl, hq, hb4⟩
          have HB4 : Hid (Below w.heap.size w w4) := HB.out.trans ((HB23.out.trans (((Below.refl _ _).alloc (Nat.le_refl _) _).trans (Below.mono hb4 (by simp)) |>.mono HB23.out.size)).mono HB.out.size)
          have HQ2 := hide hq
          clear hb4 hq C2
          cases q with
          | false =>
            go_wp2
            go_ret
            exact ⟨false, rfl, by simp, HB4.out⟩
          | true =>
            go_wp2
            go_roundw
            case rel => exact ⟨k + 1, by omega, by go_num, upTo_step HX.out HU.out ⟨HQ.out trivial, (HQ2.out trivial).2 op (by simp)⟩, HB4.out⟩
            case measure => simp [Go.RowKit.intOf]; omega
      · obtain rfl : k = ps.length := by omega
        go_wp2
        go_ret
        exact ⟨true, rfl, fun _ => ⟨by omega, fun p hp => HU.out p (by rwa [List.take_of_length_le (Nat.le_refl _)])⟩, HB.out⟩
end Go.Proofs.Ytehcaigkohkbnaa
