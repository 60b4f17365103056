/- The walk over droverlaw04.light: not too many acts, no too great messages. -/
import Derived.Test.YtaimnhlpdkpobaaFind
namespace Go.Proofs.Ytaimnhlpdkpobaa
open Go.RowKit

/-- An act. -/
structure ActD where
  kind : Int
  n : Int
  m : MsgD
/-- Its cells: s, o, i its message's lists. -/
def ActD.cells (a : ActD) (s o i : Value) : List Value := .int .i64 a.kind :: .int .i64 a.n :: a.m.cells s o i
def ActD.wf (a : ActD) : Prop := I64 a.kind ∧ I64 a.n ∧ a.m.wf
/-- An act, and its message's lists. -/
structure ActV where
  a : ActD
  s : Value
  o : Value
  i : Value
def ActV.cells (p : ActV) : List Value := p.a.cells p.s p.o p.i
theorem ActV.len (p : ActV) : p.cells.length = 36 := rfl
/-- The slice v holds these acts. -/
def ActsIn (F : Nat → Prop) (w : World) (v : Value) (ps : List ActV) : Prop := FlatAt F w 36 v ps.length (ps.flatMap ActV.cells) ∧ ∀ p ∈ ps, Lists F w p.a.m p.s p.o p.i
theorem ActsIn.kept {F : Nat → Prop} {w w' : World} {v : Value} {ps : List ActV} (h : ActsIn F w v ps) (hk : Kept F w w') : ActsIn F w' v ps := ⟨h.1.kept hk, fun p hp => (h.2 p hp).kept hk⟩
theorem ActsIn.at_ {F : Nat → Prop} {w : World} {v : Value} {ps : List ActV} (h : ActsIn F w v ps) {k : Nat} (hk : k < ps.length) : ∃ p b off c, ps[k]? = some p ∧ v = .slice (some ⟨b, off, none⟩) ps.length c ∧ ps.length ≤ c ∧ F b ∧ b < w.heap.size ∧ w.rangeAt b (off + k * 36) p.cells ∧ Lists F w p.a.m p.s p.o p.i := by
  obtain ⟨b, off, c, hv, hc, hf, hb, hr⟩ := FlatAt.elem h.1 hk
  have hs : ps[k]? = some ps[k] := List.getElem?_eq_getElem hk
  refine ⟨ps[k], b, off, c, hs, hv, hc, hf, hb, ?_, h.2 _ (List.getElem_mem hk)⟩
  rwa [flat_get ActV.cells 36 ps k _ (fun y _ => y.len) hs] at hr

/-- What light tells: where it says true, there are not too many, and none is too great. -/
def Lights (ps : List ActV) (w : World) (e : Ending) (w' : World) : Prop :=
  ∃ b : Bool, e = .returned (.bool b) ∧ (b = true → ps.length ≤ 60 ∧ ∀ p ∈ ps, p.a.m.ok) ∧ Below w.heap.size w w'
def UpTo (ps : List ActV) (k : Nat) : Prop := ∀ p ∈ ps.take k, p.a.m.ok
theorem upTo_step {ps : List ActV} {k : Nat} {x : ActV} (hx : ps[k]? = some x) (h : UpTo ps k) (hs : x.a.m.ok) : UpTo ps (k + 1) := by
  intro p hp
  rw [List.take_add_one, hx] at hp
  rcases List.mem_append.1 hp with hp | hp
  · exact h p hp
  · obtain rfl : p = x := by simpa using hp
    exact hs

def actZero : Array Value := (⟨⟨0, 0, .zero⟩, .slice none 0 0, .slice none 0 0, .slice none 0 0⟩ : ActV).cells.toArray
theorem put_act (p : ActV) : putAt actZero 0 p.cells = p.cells.toArray := by simp [actZero, ActV.cells, ActD.cells, putAt, MsgD.cells]

theorem act_one (p : ActV) (h1 : p.s.oneCell' = true) (h2 : p.o.oneCell' = true) (h3 : p.i.oneCell' = true) : ∀ u ∈ p.cells, u.oneCell' = true := by
  intro u hu
  unfold ActV.cells ActD.cells at hu
  rcases List.mem_cons.1 hu with rfl | hu
  · rfl
  rcases List.mem_cons.1 hu with rfl | hu
  · rfl
  exact p.a.m.one h1 h2 h3 u hu

set_option maxHeartbeats 2000000 in
set_option maxRecDepth 100000 in
theorem light_any (F : Nat → Prop) (v : Value) (ps : List ActV) (w : World) (h : ActsIn F w v ps) (hw : ∀ p ∈ ps, p.a.wf) :
    Calls Try.prog 9 #[v] w (Lights ps w) := by
  obtain ⟨A, c, rfl, h1, h2, _⟩ := FlatAt.shape h.1
  unfold maxLen at h2
  have H := hide h
  have HW := hide hw
  clear h hw
  by_cases hlong : 60 < ps.length
  · go_enter Try.func9, Try.ntmps9
    go_wp2
    go_ret
    exact ⟨false, rfl, by simp, Below.refl _ _⟩
  · go_enter Try.func9, Try.ntmps9
    go_wp2
    go_loopw [10] (fun j wr => ∃ k : Nat, k ≤ ps.length ∧ j = .int .i64 (k : Int) ∧ UpTo ps k ∧ Below w.heap.size w wr) (fun j _ => ps.length - (Go.RowKit.intOf j).toNat)
    case atStart => exact ⟨0, by omega, rfl, fun p hp => by simp at hp, Below.refl _ _⟩
    case round =>
      obtain ⟨k, hk, rfl, hup, hb⟩ := hrel
      have HU := hide hup
      have HB := hide hb
      clear hup hb
      by_cases hkn : k < ps.length
      · obtain ⟨x, b, off, c', hx, hv, _, _, _, hr, hli⟩ := ActsIn.at_ (H.out.kept (Kept.of_below HB.out F)) (k := k) hkn
        obtain ⟨rfl, rfl⟩ : A = some ⟨b, off, none⟩ ∧ c = c' := by injection hv with e1 _ e3; exact ⟨e1, e3⟩
        have hwx := HW.out x (List.mem_of_getElem? hx)
        have HX := hide hx
        have HR := hide hr
        obtain ⟨⟨a0, a1, m⟩, s, o, i⟩ := x
        obtain ⟨k1, k2, k3⟩ := hli.cell
        obtain ⟨iA, ic, rfl, hil⟩ : ∃ iA ic, i = .slice iA m.incs.length ic ∧ m.incs.length ≤ 9223372036854775807 := by
          obtain ⟨iA, ic, e, h1, h2, _⟩ := FlatAt.shape hli.2.2
          unfold maxLen at h2
          exact ⟨iA, ic, e, by simp only at h1; omega⟩
        have HZ : Hid ((wr.alloc (.cells actZero 44 (0, 0))).heap[wr.heap.size]? = some (.cells actZero 44 (0, 0))) := heap_alloc_new _ _
        have C := hide (fun w' (hb : Below wr.heap.size wr w') => steps_any F m s o _ w' hwx.2.2 (hli.kept (Kept.of_below hb F)))
        clear hx hv hr hli hwx
        go_wp2_with (first
          | (refine wpList_load_mid (by rfl) 44 _ (by rfl) b (off + k * 36) (by rfl) _ _ HR.out Try.underlying44 (by rfl) (by kernel_rfl) ?_)
          | (refine wpList_store_box (by rfl) 44 _ _ (by rfl) wr.heap.size 0 (ActV.cells ⟨⟨a0, a1, m⟩, s, o, .slice iA m.incs.length ic⟩).toArray (by rfl) (by rfl) 44 actZero HZ.out (by kernel_rfl) (by exact Nat.le_of_ble_eq_true rfl) (by exact act_one _ k1 k2 k3) ?_; intro w2 hb2 hg2; rw [put_act] at hb2; have f35 := box_cell hb2 35 (.slice iA m.incs.length ic) (by rfl))
          | (refine wpList_load_box (by rfl) 42 _ (by rfl) wr.heap.size 2 (by rfl) 44 _ hb2 34 _ Try.underlying42 (by rfl) (by kernel_rfl) (m.cells s o (.slice iA m.incs.length ic)) (by rfl) (by rfl) ?_))
        have hB2 : Below wr.heap.size wr w2 := ((Below.refl _ _).alloc (Nat.le_refl _) _).grown hg2 (by simp) (fun k hk => by have := Option.some.inj hk; omega)
        refine (C.out w2 hB2).mono ?_
        rintro e w3 ⟨q, rfl, hq, hb3⟩
        have hlt3 : wr.heap.size < w2.heap.size := lt_of_block hb2
        have f35' : w3.cell? ⟨wr.heap.size, 35, none⟩ = some (.slice iA m.incs.length ic) := (World.cell?_of_block (hb3.block _ hlt3)).trans f35
        have HB3 : Hid (Below w.heap.size w w3) := HB.out.trans ((hB2.trans (Below.mono hb3 hB2.size)).mono HB.out.size)
        have HQ := hide hq
        clear hb2 hg2 hB2 hb3 hlt3 f35 hq C
        by_cases hq1 : 100 < q
        · go_wp2
          go_ret
          exact ⟨false, rfl, by simp, HB3.out⟩
        · have hq2 : decide (100 < q) = false := by simpa using hq1
          by_cases hi1 : 100 < (m.incs.length : Int)
          · go_wp2
            go_ret
            exact ⟨false, rfl, by simp, HB3.out⟩
          · have hi2 : decide (100 < (m.incs.length : Int)) = false := by simpa using hi1
            go_wp2
            go_roundw
            case rel => exact ⟨k + 1, by omega, by go_num, upTo_step HX.out HU.out ⟨HQ.out (by omega), show m.incs.length ≤ 100 from by omega⟩, HB3.out⟩
            case measure => simp [Go.RowKit.intOf]; omega
      · obtain rfl : k = ps.length := by omega
        go_wp2
        go_ret
        exact ⟨true, rfl, fun _ => ⟨by omega, fun p hp => HU.out p (by rwa [List.take_of_length_le (Nat.le_refl _)])⟩, HB.out⟩
end Go.Proofs.Ytaimnhlpdkpobaa
