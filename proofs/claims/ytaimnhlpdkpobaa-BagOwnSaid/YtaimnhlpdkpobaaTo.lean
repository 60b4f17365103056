/- To of package bag: the numbers of the messages to a place, rising: the library's DeleteFunc, with a closure that looks into the map. -/
import Derived.Test.YtaimnhlpdkpobaaIds
import Derived.Test.YtaimnhlpdkpobaaPutRow
namespace Go.Proofs.Ytaimnhlpdkpobaa
open Go.RowKit Go.Maps Go.Sort Go.Shelf

/-- Where the message of that number goes to. -/
def dstOf (L : List Item) (id : Int) : Int := match itemAt L id with | some x => x.msg.dst | none => 0
/-- The numbers of the messages to a place. -/
def toOf (L : List Item) (place : Int) : List Int := (idsOf L).filter fun id => dstOf L id == place

/-- What the closure sees: where the bag's pointer lies, the place, the bag, its map. -/
structure Sees (W : World) (B1 B2 g b : Nat) (place : Int) (n : Nat) (L : List Item) : Prop where
  p1 : ∃ T, W.heap[B1]? = some (.cells #[.pointer (some ⟨g, 0, none⟩)] T (0, 0))
  p2 : ∃ T, W.heap[B2]? = some (.cells #[.int .i64 place] T (0, 0))
  bag : ∃ x y T, W.heap[g]? = some (.cells #[.map (some b), x, y] T (0, 0))
  map : W.ownsMap Try.prog 3 heldR b n (mapD (L.map Item.pair))
theorem Sees.kept {W W' : World} {B1 B2 g b : Nat} {place : Int} {n : Nat} {L : List Item} (h : Sees W B1 B2 g b place n L) {r : Option Nat} (hg : W.grownBy W' r) (h1 : some B1 ≠ r) (h2 : some B2 ≠ r) (h3 : some g ≠ r) (h4 : some b ≠ r) : Sees W' B1 B2 g b place n L := by
  obtain ⟨⟨T1, p1⟩, ⟨T2, p2⟩, ⟨x, y, T3, p3⟩, p4⟩ := h
  exact ⟨⟨T1, (hg.block _ (lt_of_block p1) h1).trans p1⟩, ⟨T2, (hg.block _ (lt_of_block p2) h2).trans p2⟩, ⟨x, y, T3, (hg.block _ (lt_of_block p3) h3).trans p3⟩, p4.kept hg h4⟩

theorem field_dst (m : MsgD) (s o i : Value) (w : World) : (Instr.field 42 (.agg (m.cells s o i).toArray) 2).run Try.prog w = .ok (.int .i64 m.dst) w := by kernel_rfl

set_option maxHeartbeats 1000000 in
set_option maxRecDepth 100000 in
theorem closure_any {W : World} {B1 B2 g b : Nat} {place : Int} {n : Nat} {L : List Item} (id : Int) (h : Sees W B1 B2 g b place n L) (hs : ∀ x ∈ L, ∃ s o i, x.val = .agg (x.msg.cells s o i).toArray) (hid : I64 id) :
    Calls Try.prog 42 #[.int .i64 id, .pointer (some ⟨B1, 0, none⟩), .pointer (some ⟨B2, 0, none⟩)] W fun e w' => e = .returned (.bool (!(dstOf L id == place))) ∧ ∃ q, w' = W.drewN q := by
  have hl : ∀ q : Nat, (Instr.lookup 70 (.map (some b)) (.int .i64 id) false).run Try.prog (W.drewN q) = .ok (foundIn (L.map Item.pair) zeroMsg id).1 (W.drewN q) := fun q =>
    look_held false Try.int_law Try.underlying70 (z := zeroMsg) (by kernel_rfl) (w := W.drewN q) (h.map.kept (grown_drewN W none q) (by simp)) (int_key hid)
  obtain ⟨s, o, i, m, hv, hd⟩ : ∃ s o i m, (foundIn (L.map Item.pair) zeroMsg id).1 = .agg (MsgD.cells m s o i).toArray ∧ m.dst = dstOf L id := by
    rw [found_item]
    unfold dstOf
    cases hx : itemAt L id with
    | none => exact ⟨.slice none 0 0, .slice none 0 0, .slice none 0 0, .zero, rfl, rfl⟩
    | some x =>
      obtain ⟨s, o, i, e⟩ := hs x (item_mem hx).1
      exact ⟨s, o, i, x.msg, e, rfl⟩
  obtain ⟨⟨T1, p1⟩, ⟨T2, p2⟩, ⟨x, y, T3, p3⟩, _⟩ := h
  have c1 := cell_of_row W B1 0 _ _ _ p1
  have c2 := cell_of_row W B2 0 _ _ _ p2
  have c3 := cell_of_row W g 0 _ _ _ p3
  simp only [List.getElem?_toArray, List.getElem?_cons_zero] at c1 c2 c3
  rw [← hd]
  have HL : Hid (∀ q : Nat, (Instr.lookup 70 (.map (some b)) (.int .i64 id) false).run Try.prog (W.drewN q) = .ok (.agg (m.cells s o i).toArray) (W.drewN q)) := by
    intro q
    rw [hl q, hv]
  have hl2 := HL.out
  have hfl := field_dst m s o i
  unfold MsgD.cells at hl2 hfl
  clear hl hv hd hs p1 p2 p3 HL
  go_enter Try.func42, Try.ntmps42
  go_wp2
  go_quiet (fail)
  clear hl2 hfl
  go_wp2
  go_ret
  exact ⟨rfl, nq, rfl⟩

/-- An int of 64 bits. -/
abbrev I64T := { x : Int // I64 x }
instance : Inhabited I64T := ⟨⟨0, by decide, by decide⟩⟩
def encT (x : I64T) : Value := .int .i64 x.1
def subs (l : List Int) (h : Fit l) : List I64T := l.attach.map fun x => ⟨x.1, (h x.1 x.2).1, (h x.1 x.2).2⟩
theorem subs_map (l : List Int) (h : Fit l) : (subs l h).map (·.1) = l := by simp [subs, Function.comp_def]
theorem subs_len (l : List Int) (h : Fit l) : (subs l h).length = l.length := by simp [subs]
theorem subs_get (l : List Int) (h : Fit l) (j : Nat) (hj : j < l.length) : ((subs l h).toArray[j]!).1 = l.getD j 0 := by
  rw [getElem!_pos _ j (by simpa [subs] using hj)]
  simp [subs, List.getD, hj]
theorem subs_filter (l : List Int) (h : Fit l) (p : Int → Bool) : ((subs l h).filter fun x => p x.1).map encT = ivs (l.filter p) := by
  have e : ((subs l h).filter fun x => p x.1).map (·.1) = l.filter p := by
    conv => rhs; rw [← subs_map l h, List.filter_map]
    rfl
  rw [← e]
  simp [ivs, iv, encT]

set_option maxHeartbeats 400000 in
theorem index_nil (fv : Value) (w : World) : Calls Try.prog 53 #[.slice none 0 0, fv] w fun e w' => e = .returned (.int .i64 (-1)) ∧ w = w' :=
  (AnyE.slices_IndexFunc_empty (P := Try.prog) (ρ := Try.delA_ren) { Try.delA with } none 0 fv w).mono fun _ _ ⟨h1, h2⟩ => ⟨h1, h2.symm⟩
set_option maxHeartbeats 400000 in
theorem delete_nil (fv : Value) (w : World) : Calls Try.prog 41 #[.slice none 0 0, fv] w fun e w' => e = .returned (.slice none 0 0) ∧ w = w' := by
  go_enter Try.func41, Try.ntmps41
  go_wp2_with (fail)
  refine (index_nil _ _).mono ?_
  rintro e w1 ⟨rfl, rfl⟩
  go_wp2
  go_ret
  exact ⟨rfl, rfl⟩

/-- DeleteFunc, with the closure, at a slice of the call's own that holds the numbers. -/
theorem delete_any {W : World} {base B1 B2 g b : Nat} {place : Int} {n : Nat} {L : List Item} {A : Option Addr} {k c : Nat} (hb : base ≤ W.heap.size) (hW : Sees W B1 B2 g b place n L) (hs : ∀ x ∈ L, ∃ s o i, x.val = .agg (x.msg.cells s o i).toArray)
    (hf : Fit (idsOf L)) (ho : W.ownsRow base 3 1 (.slice A k c) k (ivs (idsOf L))) (hne : ∀ q, (Value.slice A k c).ownBlock = some q → B1 ≠ q ∧ B2 ≠ q ∧ g ≠ q ∧ b ≠ q) :
    Calls Try.prog 41 #[.slice A k c, .func (.func 42) #[] #[.pointer (some ⟨B1, 0, none⟩), .pointer (some ⟨B2, 0, none⟩)]] W fun e w' =>
      ∃ A n c, e = .returned (.slice A n c) ∧ w'.ownsRow base 3 1 (.slice A n c) n (ivs (toOf L place)) ∧ n ≤ c ∧ Below base W w' := by
  have hlen : (idsOf L).length = k := by have := ho.1; rw [ivs_len] at this; omega
  rcases A with _ | a
  · obtain ⟨rfl, rfl⟩ : k = 0 ∧ c = 0 := by
      rcases ho.2 with ⟨e, h0⟩ | ⟨_, _, _, e, _⟩
      · injection e with _ e2 e3
        exact ⟨h0, e3⟩
      · injection e with e _ _
        cases e
    have hnil : idsOf L = [] := List.eq_nil_of_length_eq_zero hlen
    refine (delete_nil _ W).mono ?_
    rintro e w' ⟨rfl, rfl⟩
    refine ⟨none, 0, 0, rfl, ?_, Nat.le_refl _, Below.refl _ _⟩
    unfold toOf
    rw [hnil]
    exact World.ownsRow_nil _ _ _ _
  · obtain ⟨q, rfl, hbq, hnc, hcm⟩ : ∃ q, a = ⟨q, 0, none⟩ ∧ base ≤ q ∧ k ≤ c ∧ c ≤ 9223372036854775807 := by
      rcases ho.2 with ⟨e, _⟩ | ⟨q, cap, _, e, hbq, _, hnc, hm, _⟩
      · cases e
      · injection e with e e2 e3
        injection e with e
        unfold maxLen at hm
        exact ⟨q, e, hbq, by omega, by omega⟩
    obtain ⟨n1, n2, n3, n4⟩ := hne q rfl
    have eg : ∀ args w, (callFunc 42 args).run Try.prog w = .ok (.enter 42 args) w := enters_of Try.func42 (by kernel_rfl) rfl
    have hgive : ∀ (W' : World) (x : I64T), Sees W' B1 B2 g b place n L → FnGives Try.prog 42 #[.pointer (some ⟨B1, 0, none⟩), .pointer (some ⟨B2, 0, none⟩)] #[encT x] (.bool (!(dstOf L x.1 == place))) W' := fun W' x h => closure_any x.1 h hs x.2
    have hP : PredAt Try.prog 42 #[.pointer (some ⟨B1, 0, none⟩), .pointer (some ⟨B2, 0, none⟩)] encT (fun x => !(dstOf L x.1 == place)) W := fun W' x hbl => hgive W' x (hW.kept (grown_later hbl none) (by simp) (by simp) (by simp) (by simp))
    have hlen2 : (subs (idsOf L) hf).toArray.size = k := by simp [subs_len, hlen]
    have hO : PredOver Try.prog 42 #[.pointer (some ⟨B1, 0, none⟩), .pointer (some ⟨B2, 0, none⟩)] encT (fun x => !(dstOf L x.1 == place)) q 0 (subs (idsOf L) hf).toArray.size W := fun m os dk x _ =>
      hgive _ x (hW.kept (grown_sortWorld encT W q 0 m dk os) (fun e => n1 (Option.some.inj e)) (fun e => n2 (Option.some.inj e)) (fun e => n3 (Option.some.inj e)) (fun e => n4 (Option.some.inj e)))
    have hH : Go.Sort.Holds encT W q 0 (subs (idsOf L) hf).toArray := fun j hj => by
      have hjk : j < k := by omega
      rw [Nat.zero_add]
      refine ⟨?_, iown_free ho j⟩
      rw [iown_cell ho hjk]
      unfold encT
      rw [subs_get _ _ _ (by omega)]
    have hcon := AnyE.slices_DeleteFunc (P := Try.prog) (ρ := Try.delA_ren) Try.delA encT (fun _ => rfl) (fun x => !(dstOf L x.1 == place)) 42 #[.pointer (some ⟨B1, 0, none⟩), .pointer (some ⟨B2, 0, none⟩)] eg (⟨0, by decide, by decide⟩ : I64T) Try.zeroValue3 q 0 c (subs (idsOf L) hf).toArray W hP hO hH (by rw [hlen2]; omega) (by rw [hlen2]; exact hnc)
    rw [hlen2] at hcon
    refine Calls.mono hcon ?_
    rintro e w' ⟨rfl, qd, rfl⟩
    simp only [Bool.not_not]
    have hkl : ((subs (idsOf L) hf).filter fun x => dstOf L x.1 == place).length ≤ k := by
      have := List.length_filter_le (fun x : I64T => dstOf L x.1 == place) (subs (idsOf L) hf)
      rw [subs_len, hlen] at this
      exact this
    have hown := own_putRow encT ho (((subs (idsOf L) hf).filter fun x => dstOf L x.1 == place) ++ List.replicate (k - ((subs (idsOf L) hf).filter fun x => dstOf L x.1 == place).length) (⟨0, by decide, by decide⟩ : I64T)).toArray (by simp; omega) ((subs (idsOf L) hf).filter fun x => dstOf L x.1 == place).length qd hkl
    have htk : ((((subs (idsOf L) hf).filter fun x => dstOf L x.1 == place) ++ List.replicate (k - ((subs (idsOf L) hf).filter fun x => dstOf L x.1 == place).length) (⟨0, by decide, by decide⟩ : I64T)).toArray.toList.take ((subs (idsOf L) hf).filter fun x => dstOf L x.1 == place).length) = (subs (idsOf L) hf).filter fun x => dstOf L x.1 == place := List.take_left' rfl
    rw [htk, subs_filter (idsOf L) hf (fun x => dstOf L x == place)] at hown
    refine ⟨_, _, c, rfl, hown, by omega, (Below.refl _ _).grown (grown_putRow encT W q 0 qd _) hb (fun j e => by have := Option.some.inj e; omega)⟩
end Go.Proofs.Ytaimnhlpdkpobaa
