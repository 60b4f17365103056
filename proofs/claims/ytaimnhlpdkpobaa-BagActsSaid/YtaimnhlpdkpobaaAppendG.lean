/- append of any slice to a row of the call's own, at an operation of a region; slices a[:k]. -/
import Derived.Test.YtaimnhlpdkpobaaCutRow
import Derived.Test.YtaimnhlpdkpobaaLitW
import Derived.Test.YtaimnhlpdkpobaaCopyRel
namespace Go.Proofs.Ytaimnhlpdkpobaa
open Go.RowKit

section
variable {P : Program} {w : World}
theorem run_append_gen (base : Nat) (t ty e : TypeId) (i : TypeInfo) (z : Value) (k bytes : Nat) (ht : P.underlying t = some (.slice e)) (hi : P.info? e = some i) (hz : i.zero = some z)
    (hsize : i.size = k) (hby : i.bytes = bytes) (hzs : z.cells.size = k) (hk : 0 < k)
    (v : Value) (n : Nat) (xs : List Value) (hown : w.ownsRow base e k v n xs)
    (F : Nat → Prop) (A : Option Addr) (m c : Nat) (ys : List Value) (hl : FlatAt F w k (.slice A m c) m ys) (hroom : n + m ≤ maxLen) (hbytes : (n + m) * bytes ≤ 140737488355328) (hbase : base ≤ w.heap.size) :
    ∃ v' w', (Builtin.append_ #[t, t] ty #[v, .slice A m c]).run P w = .ok v' w' ∧ w'.ownsRow base e k v' (n + m) (xs ++ ys) ∧ w.grownBy w' v.ownBlock ∧ (v'.ownBlock = v.ownBlock ∨ v'.ownBlock = some w.heap.size) := by
  by_cases hm : m = 0
  · subst hm
    have hy : ys = [] := List.eq_nil_of_length_eq_zero (by have := hl.len; simpa using this)
    subst hy
    obtain ⟨v', w', h1, h2, h3⟩ := run_append_flat (P := P) w base t ty e i z k bytes ht hi hz hsize hby hzs hk v n xs hown F A 0 c [] hl hroom hbytes hbase
    refine ⟨v', w', h1, h2, h3, ?_⟩
    have h0 : (Builtin.append_ #[t, t] ty #[v, .slice A 0 c]).run P w = .ok v w := by
      rcases hown.2 with ⟨rfl, rfl⟩ | ⟨g, cap, cur, rfl, _, _, hnc, _⟩
      · cases A <;> simp [Builtin.append_, run_underlying ht, sizeOf, typeInfo, hi, Builtin.lenOf, Builtin.firstCells, loadCells, loadCellsFrom]
      · cases A <;> simp [Builtin.append_, run_underlying ht, sizeOf, typeInfo, hi, Builtin.lenOf, Builtin.firstCells, hnc, storeCells, loadCells, loadCellsFrom]
    rw [h0] at h1
    injection h1 with e1 _
    rw [e1]
    exact .inl rfl
  · obtain ⟨hlen, h1, A', c', hv, h3, h4, h5, h6⟩ := hl
    obtain ⟨rfl, rfl⟩ : A = A' ∧ c = c' := by injection hv with e1 _ e3; exact ⟨e1, e3⟩
    obtain ⟨b, off, rfl, _, _, hr⟩ := h6 (by omega)
    obtain ⟨v', w', g1, g2, g3, _, g5⟩ := run_append_own_at (P := P) w base t ty e i z k bytes ht hi hz hsize hby hzs hk v n xs hown ⟨b, off, none⟩ m c ys hlen
      (fun j u hu => by rw [Addr.add_lit]; exact hr j u hu) h1 hroom hbytes hbase
    exact ⟨v', w', g1, g2, g3, g5⟩
theorem wp_append_gen {o : Oper} {a : Act} {K : Act → World → Prop} {Q : Exit → Act → World → Prop} (s x : Operand) (t : TypeId)
    (ho : o.op = .call { callee := .builtin .append, args := #[s, x], argTypes := #[t, t] })
    (base : Nat) (e : TypeId) (i : TypeInfo) (z : Value) (k bytes : Nat) (ht : P.underlying t = some (.slice e)) (hi : P.info? e = some i) (hz : i.zero = some z)
    (hsize : i.size = k) (hby : i.bytes = bytes) (hzs : z.cells.size = k) (hk : 0 < k)
    (v : Value) (n : Nat) (xs : List Value) (hs : a.eval s = v) (hown : w.ownsRow base e k v n xs)
    (F : Nat → Prop) (A : Option Addr) (m c : Nat) (ys : List Value) (hx : a.eval x = .slice A m c) (hl : FlatAt F w k (.slice A m c) m ys) (hroom : n + m ≤ maxLen) (hbytes : (n + m) * bytes ≤ 140737488355328) (hbase : base ≤ w.heap.size)
    (h : ∀ v' w', w'.ownsRow base e k v' (n + m) (xs ++ ys) → w.grownBy w' v.ownBlock → (v'.ownBlock = v.ownBlock ∨ v'.ownBlock = some w.heap.size) → K (a.put o.dst v') w') : o.wp P a w K Q := by
  obtain ⟨v', w', hr, h2, h3, h4⟩ := run_append_gen (P := P) base t o.type e i z k bytes ht hi hz hsize hby hzs hk v n xs hown F A m c ys hl hroom hbytes hbase
  unfold Oper.wp execOp
  simp only [ho, resolve, invoke, builtin, Sem.run_bind, Sem.run_pure, Result.andThen_ok, List.map_toArray, List.map_cons, List.map_nil, hs, hx, hr]
  exact h v' w' h2 h3 h4
end
/-- The first k operations, in the same room. -/
theorem OpsIn.first {F : Nat → Prop} {w : World} {A : Option Addr} {n c : Nat} {ps : List (OpD × Value)} (h : OpsIn F w (.slice A n c) ps) {k : Nat} (hk : k ≤ ps.length) : OpsIn F w (.slice A k c) (ps.take k) := by
  obtain ⟨⟨h1, h2, A', c', hv, h3, h4, h5, h6⟩, hs⟩ := h
  obtain ⟨rfl, rfl, rfl⟩ : A = A' ∧ n = ps.length ∧ c = c' := by injection hv with e1 e2 e3; exact ⟨e1, e2, e3⟩
  have hl : (ps.take k).length = k := by simp; omega
  have hf := flat_take (fun p : OpD × Value => p.1.cells p.2) 10 ps k (fun p _ => p.1.len p.2)
  refine ⟨⟨?_, ?_, A, c, by rw [hl], by omega, h4, h5, fun h0 => ?_⟩, fun p hp => hs p (List.mem_of_mem_take hp)⟩
  · rw [flat_len (fun p : OpD × Value => p.1.cells p.2) 10 _ fun p _ => p.1.len p.2]
  · intro u hu
    rw [hf] at hu
    exact h2 u (List.mem_of_mem_take hu)
  · obtain ⟨b, off, hA, hF, hb, hr⟩ := h6 (by omega)
    refine ⟨b, off, hA, hF, hb, fun j u hj => hr j u ?_⟩
    rw [hf] at hj
    rw [List.getElem?_take_of_lt (by have := (List.getElem?_eq_some_iff.1 hj).1; rw [List.length_take] at this; omega)] at hj
    exact hj
theorem slice_to {k n c : Nat} (hk : k ≤ n) (hn : n ≤ c) (A : Option Addr) (w : World) :
    (Instr.slice 39 (.slice A n c) none (some (.int .i64 (k : Int))) none).run Try.prog w = .ok (.slice A k c) w := by
  have ht : Try.prog.underlying 39 = some (.slice (Try.prog.elem 39)) := by kernel_rfl
  obtain ⟨i0, hi, hz0, hz1, hz2⟩ := info_parts (show (Try.prog.info? (Try.prog.elem 39)).map (fun i => (i.zero, i.size, i.bytes)) = some (some (.agg #[.int .i64 0, .int .i64 0, .int .i64 0, .string ⟨#[]⟩, .slice none 0 0, .int .i64 0, .int .i64 0, .int .i64 0, .bool false, .bool false]), 10, 96) from by kernel_rfl)
  have h1 := run_slice_h (P := Try.prog) w 39 A n c ht .i64 (k : Int) (by omega) (by omega)
  rw [h1]
  have hs : (sizeOf (Try.prog.elem 39)).run Try.prog w = .ok 10 w := by simp [sizeOf, typeInfo, hi, hz1]
  rw [hs]
  simp only [Result.andThen, sliced, Int.toNat_natCast, Nat.sub_zero]
  rcases A with _ | a
  · simp
  · simp [Addr.add]
end Go.Proofs.Ytaimnhlpdkpobaa
