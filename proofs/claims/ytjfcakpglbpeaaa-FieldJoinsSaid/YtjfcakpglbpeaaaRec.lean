/- Records: what is said of a slice of fields in memory, what is a good field, and the bytes of a record. -/
import Derived.Test.YtjfcakpglbpeaaaMem
namespace Go.Proofs.Ytjfcakpglbpeaaa
open Go.RowKit

/-- A field as it lies in memory: its number, whether it is a text, its value, where its bytes lie, and they. -/
structure Fd where
  num : Int
  text : Bool
  v : Nat
  a : Option Addr
  n : Nat
  c : Nat
  b : List Nat

namespace Fd
def cells (f : Fd) : Array Value := #[.int .i64 f.num, .bool f.text, .int .u64 f.v, .slice f.a f.n f.c]
def val (f : Fd) : Value := .agg f.cells
/-- May it stand in a record? -/
def good (f : Fd) : Bool := decide (1 ≤ f.num) && decide (f.num ≤ 1000) && (if f.text then f.v == 0 else f.n == 0)
theorem good_not {f : Fd} (h : f.num < 1 ∨ 1000 < f.num) : false = f.good := by
  unfold good
  rcases h with h | h <;> simp <;> omega
theorem good_text {f : Fd} (h1 : 1 ≤ f.num) (h2 : f.num ≤ 1000) (ht : f.text = true) : ((f.v : Int) == 0) = f.good := by
  unfold good
  rw [Bool.eq_iff_iff]
  simp [h1, h2, ht]
theorem good_num {f : Fd} (h1 : 1 ≤ f.num) (h2 : f.num ≤ 1000) (ht : f.text = false) : ((f.n : Int) == 0) = f.good := by
  unfold good
  rw [Bool.eq_iff_iff]
  simp [h1, h2, ht]
theorem good_range {f : Fd} (h : f.good = true) : 1 ≤ f.num ∧ f.num ≤ 1000 := by
  unfold good at h
  simp at h
  exact h.1
/-- Its bytes. -/
def bytes (f : Fd) : List Nat :=
  if f.good then (if f.text then enc (2 * f.num.toNat + 1) ++ enc f.n ++ f.b else enc (2 * f.num.toNat) ++ enc f.v) else []
/-- It is one in memory. -/
def ok (w : World) (B : Nat) (f : Fd) : Prop :=
  (-9223372036854775808 ≤ f.num ∧ f.num < 9223372036854775808) ∧ f.v < 18446744073709551616 ∧ f.n ≤ f.c ∧ Holds w B f.a f.n f.b
end Fd

theorem bytes_not {f : Fd} (h : f.good = false) : f.bytes = [] := by
  unfold Fd.bytes
  simp [h]
theorem bytes_text {f : Fd} (h : f.good = true) (ht : f.text = true) : f.bytes = enc (2 * f.num.toNat + 1) ++ enc f.n ++ f.b := by
  unfold Fd.bytes
  simp [h, ht]
theorem bytes_num {f : Fd} (h : f.good = true) (ht : f.text = false) : f.bytes = enc (2 * f.num.toNat) ++ enc f.v := by
  unfold Fd.bytes
  simp [h, ht]

/-- The bytes of a record. -/
def recOf (fs : List Fd) : List Nat := (fs.map Fd.bytes).flatten
/-- How long they may be. -/
def room (fs : List Fd) : Nat := (fs.map fun f => 20 + f.n).sum

theorem recOf_snoc (fs : List Fd) (f : Fd) : recOf (fs ++ [f]) = recOf fs ++ f.bytes := by simp [recOf]
theorem room_snoc (fs : List Fd) (f : Fd) : room (fs ++ [f]) = room fs + (20 + f.n) := by simp [room]

theorem bytes_len (f : Fd) (h : f.b.length = f.n) : f.bytes.length ≤ 20 + f.n := by
  have h1 := enc_len (2 * f.num.toNat + 1)
  have h2 := enc_len f.n
  have h3 := enc_len (2 * f.num.toNat)
  have h4 := enc_len f.v
  unfold Fd.bytes
  split
  · split <;> simp <;> omega
  · simp
theorem recOf_len : ∀ (fs : List Fd), (∀ f ∈ fs, f.b.length = f.n) → (recOf fs).length ≤ room fs
  | [], _ => by simp [recOf, room]
  | f :: r, h => by
    have h1 := bytes_len f (h f (by simp))
    have h2 := recOf_len r fun g hg => h g (by simp [hg])
    simp only [recOf, room, List.map_cons, List.flatten_cons, List.length_append, List.sum_cons] at *
    omega
theorem room_take : ∀ (fs : List Fd) (k : Nat), room (fs.take k) ≤ room fs
  | [], k => by simp [room]
  | f :: r, 0 => by simp [room]
  | f :: r, k + 1 => by
    have := room_take r k
    simp only [room, List.take_succ_cons, List.map_cons, List.sum_cons] at *
    omega

theorem bytes_small {w : World} {B : Nat} {f : Fd} (h : f.ok w B) : ∀ x ∈ f.bytes, x < 256 := by
  intro x hx
  unfold Fd.bytes at hx
  split at hx
  · split at hx
    · rcases List.mem_append.1 hx with hx | hx
      · rcases List.mem_append.1 hx with hx | hx
        · exact enc_small _ x hx
        · exact enc_small _ x hx
      · exact h.2.2.2.2.1 x hx
    · rcases List.mem_append.1 hx with hx | hx
      · exact enc_small _ x hx
      · exact enc_small _ x hx
  · cases hx
theorem recOf_small {w : World} {B : Nat} {fs : List Fd} (h : ∀ f ∈ fs, f.ok w B) : ∀ x ∈ recOf fs, x < 256 := by
  intro x hx
  obtain ⟨y, hy, hxy⟩ := List.mem_flatten.1 hx
  obtain ⟨f, hf, rfl⟩ := List.mem_map.1 hy
  exact bytes_small (h f hf) x hxy

/-- The slice at 'A', of 'n' fields, holds fs, in a block below B. -/
def FHolds (w : World) (B : Nat) (A : Option Addr) (n : Nat) (fs : List Fd) : Prop :=
  fs.length = n ∧ (∀ f ∈ fs, f.ok w B) ∧
  (0 < n → ∃ b off, A = some ⟨b, off, none⟩ ∧ b < B ∧ ∀ i f, fs[i]? = some f → ∀ j u, f.cells[j]? = some u → w.cell? ⟨b, off + i * 4 + j, none⟩ = some u)

section
variable {w w' : World} {B B' : Nat} {A : Option Addr} {n : Nat} {fs : List Fd} {f : Fd}

theorem Fd.ok.keep (h : f.ok w B) (hk : ∀ p : Addr, p.block < B → w'.cell? p = w.cell? p) : f.ok w' B := ⟨h.1, h.2.1, h.2.2.1, h.2.2.2.keep hk⟩
theorem FHolds.keep (h : FHolds w B A n fs) (hk : ∀ p : Addr, p.block < B → w'.cell? p = w.cell? p) : FHolds w' B A n fs :=
  ⟨h.1, fun f hf => (h.2.1 f hf).keep hk, fun hn => by
    obtain ⟨b, off, e, hb, hc⟩ := h.2.2 hn
    exact ⟨b, off, e, hb, fun i f hi j u hu => (hk ⟨b, _, none⟩ hb).trans (hc i f hi j u hu)⟩⟩
theorem FHolds.below (h : FHolds w B A n fs) (hb : Below B w w') : FHolds w' B A n fs := h.keep fun _ hp => hb.cell hp
theorem FHolds.more (h : FHolds w B A n fs) (hB : B ≤ B') : FHolds w B' A n fs :=
  ⟨h.1, fun f hf => ⟨(h.2.1 f hf).1, (h.2.1 f hf).2.1, (h.2.1 f hf).2.2.1, (h.2.1 f hf).2.2.2.more hB⟩, fun hn => by
    obtain ⟨b, off, e, hb, hc⟩ := h.2.2 hn
    exact ⟨b, off, e, by omega, hc⟩⟩
theorem FHolds.lens (h : FHolds w B A n fs) : ∀ f ∈ fs, f.b.length = f.n := fun f hf => (h.2.1 f hf).2.2.2.1
theorem FHolds.small (h : FHolds w B A n fs) : ∀ x ∈ recOf fs, x < 256 := recOf_small h.2.1

/-- The field at k, and its four cells. -/
theorem FHolds.at_ (h : FHolds w B A n fs) {k : Nat} (hk : k < n) : ∃ f b off, fs[k]? = some f ∧ f.ok w B ∧ A = some ⟨b, off, none⟩ ∧ b < B ∧
    w.cell? ⟨b, off + k * 4, none⟩ = some (.int .i64 f.num) ∧ w.cell? ⟨b, off + k * 4 + 1, none⟩ = some (.bool f.text) ∧ w.cell? ⟨b, off + k * 4 + 2, none⟩ = some (.int .u64 f.v) ∧
    w.cell? ⟨b, off + k * 4 + 3, none⟩ = some (.slice f.a f.n f.c) ∧ fs.take (k + 1) = fs.take k ++ [f] := by
  have hl : k < fs.length := by rw [h.1]; exact hk
  obtain ⟨b, off, e, hb, hc⟩ := h.2.2 (by omega)
  have hf : fs[k]? = some fs[k] := List.getElem?_eq_getElem hl
  refine ⟨fs[k], b, off, hf, h.2.1 _ (List.getElem_mem hl), e, hb, hc k _ hf 0 _ rfl, hc k _ hf 1 _ rfl, hc k _ hf 2 _ rfl, hc k _ hf 3 _ rfl, ?_⟩
  rw [List.take_succ_eq_append_getElem hl]
end

/-- A block of four cells. -/
def Box (w : World) (g : Nat) (t : TypeId) (c0 c1 c2 c3 : Value) : Prop := w.heap[g]? = some (.cells #[c0, c1, c2, c3] t (0, 0))
section
variable {w w1 : World} {g : Nat} {t : TypeId} {c0 c1 c2 c3 : Value}
theorem Box.new (w : World) (t : TypeId) (c0 c1 c2 c3 : Value) : Box (w.alloc (.cells #[c0, c1, c2, c3] t)) w.heap.size t c0 c1 c2 c3 := heap_alloc_new w _
theorem Box.lt (h : Box w g t c0 c1 c2 c3) : g < w.heap.size := (Array.getElem?_eq_some_iff.1 h).1
theorem Box.below (h : Box w g t c0 c1 c2 c3) {B : Nat} (hb : Below B w w1) (hg : g < B) : Box w1 g t c0 c1 c2 c3 := (hb.block g hg).trans h
theorem Box.went (h : Box w g t c0 c1 c2 c3) {base e n : Nat} {v : Value} {xs : List Value} {r1 : Option Nat} (hw : Went w v.ownBlock w1 r1) (ho : w.ownsRow base e 1 v n xs) (hne : e ≠ t) : Box w1 g t c0 c1 c2 c3 :=
  hw.other ho h hne
theorem Box.cell (h : Box w g t c0 c1 c2 c3) : w.cell? ⟨g, 0, none⟩ = some c0 ∧ w.cell? ⟨g, 1, none⟩ = some c1 ∧ w.cell? ⟨g, 2, none⟩ = some c2 ∧ w.cell? ⟨g, 3, none⟩ = some c3 :=
  ⟨cell_of_row w g 0 _ t (0, 0) h, cell_of_row w g 1 _ t (0, 0) h, cell_of_row w g 2 _ t (0, 0) h, cell_of_row w g 3 _ t (0, 0) h⟩
end

end Go.Proofs.Ytjfcakpglbpeaaa
