/- Worlds of which all but some blocks are as they were. -/
import Derived.Test.YtehcaigkohkbnaaFlat
import Derived.Test.YtehcaigkohkbnaaGrown
namespace Go.Proofs.Ytehcaigkohkbnaa
open Go.RowKit

/-- From w to w' no block has turned of which S does not hold. -/
structure Turned (S : Nat → Prop) (w w' : World) : Prop where
  os : w'.os = w.os
  tape : w'.tape = w.tape
  output : w'.output = w.output
  size : w.heap.size ≤ w'.heap.size
  block : ∀ i, i < w.heap.size → ¬ S i → w'.heap[i]? = w.heap[i]?
section
variable {S : Nat → Prop} {a b c : World}
theorem Turned.refl (S : Nat → Prop) (w : World) : Turned S w w := ⟨rfl, rfl, rfl, Nat.le_refl _, fun _ _ _ => rfl⟩
theorem Turned.trans (h : Turned S a b) (k : Turned S b c) : Turned S a c :=
  ⟨k.os.trans h.os, k.tape.trans h.tape, k.output.trans h.output, Nat.le_trans h.size k.size, fun i hi hs => (k.block i (Nat.lt_of_lt_of_le hi h.size) hs).trans (h.block i hi hs)⟩
theorem Turned.of_below (h : Below a.heap.size a b) (S : Nat → Prop) : Turned S a b := ⟨h.os, h.tape, h.output, h.size, fun i hi _ => h.block i hi⟩
theorem Turned.of_grown {r : Option Nat} (h : a.grownBy b r) (hr : ∀ g, r = some g → S g) : Turned S a b :=
  ⟨h.os, h.tape, h.output, h.size, fun i hi hs => h.block i hi (fun e => hs (hr i e.symm))⟩
/-- What lies in new blocks may turn. -/
theorem Turned.onto {T : Nat → Prop} (h : Turned S a b) (k : Turned T b c) (ht : ∀ i, T i → S i ∨ a.heap.size ≤ i) : Turned S a c :=
  ⟨k.os.trans h.os, k.tape.trans h.tape, k.output.trans h.output, Nat.le_trans h.size k.size, fun i hi hs => (k.block i (Nat.lt_of_lt_of_le hi h.size) (fun e => (ht i e).elim hs (by omega))).trans (h.block i hi hs)⟩
theorem Turned.kept (h : Turned S a b) {F : Nat → Prop} (hf : ∀ i, F i → ¬ S i) : Kept F a b := ⟨h.size, fun i hi hF => h.block i hi (hf i hF)⟩
theorem Turned.mono {T : Nat → Prop} (h : Turned S a b) (ht : ∀ i, S i → T i) : Turned T a b := ⟨h.os, h.tape, h.output, h.size, fun i hi hs => h.block i hi (fun e => hs (ht i e))⟩
theorem Turned.below {B : Nat} (h : Turned S a b) (hs : ∀ i, S i → B ≤ i) (hB : B ≤ a.heap.size) : Below B a b :=
  ⟨h.os, h.tape, h.output, h.size, fun i hi => h.block i (Nat.lt_of_lt_of_le hi hB) (fun e => by have := hs i e; omega)⟩
theorem Turned.drewN (S : Nat → Prop) (w : World) (n : Nat) : Turned S w (w.drewN n) := ⟨rfl, rfl, rfl, Nat.le_refl _, fun _ _ _ => rfl⟩
theorem Turned.of_drew (h : Turned S a.drew b) : Turned S a b := ⟨h.os, h.tape, h.output, h.size, h.block⟩
end
end Go.Proofs.Ytehcaigkohkbnaa
