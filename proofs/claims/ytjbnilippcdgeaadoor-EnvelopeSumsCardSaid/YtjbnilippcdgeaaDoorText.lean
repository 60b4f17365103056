/- Strings of bytes: string(b), and when two are the same. -/
import Derived.Test.YtjbnilippcdgeaaDoorMem
import Derived.Test.YtjbnilippcdgeaaDoorRows
import Derived.Laws.BytesArg
import Derived.Lib.SlBytesConst
import Derived.WalkLawsBesides
namespace Go.Proofs.YtjbnilippcdgeaaDoor
open Go.RowKit

/-- A string of these bytes. -/
def str (l : List Nat) : ByteArray := ⟨(l.map UInt8.ofNat).toArray⟩

theorem str_nums (l : List Nat) : strOfNums (l.map fun x : Nat => (x : Int)) = str l := by
  unfold strOfNums str
  simp

/-- 'string(b)'. -/
theorem run_str (w : World) (B : Nat) (A : Option Addr) (n c : Nat) (l : List Nat) (hl : Holds w B A n l) :
    (convert 22 9 (.slice A n c)).run Tryd.prog w = .ok (.string (str l)) w := by
  rcases Nat.eq_zero_or_pos n with h0 | h0
  · subst h0
    have hn : l = [] := List.eq_nil_of_length_eq_zero hl.1
    subst hn
    rw [run_convert_bytes_string w _ _ _ A 0 c Tryd.underlying22 Tryd.underlying5 Tryd.underlying9]
    cases A with
    | none => simp [Conv.bytesToString, str]; rfl
    | some a => simp [Conv.bytesToString, loadCells, loadCellsFrom, str]; rfl
  · obtain ⟨b, off, rfl, _, hc⟩ := hl.2.2 h0
    rw [← str_nums]
    exact run_convert_bytes_arg (P := Tryd.prog) w _ _ Tryd.underlying22 Tryd.underlying5 b off n c (l.map fun x : Nat => (x : Int)) (by simp [hl.1]) (fun i hi => by
      rw [hc i hi]
      have hl' : i < l.length := by rw [hl.1]; exact hi
      simp [List.getD, hl']) _ Tryd.underlying9

theorem str_toList (l : List Nat) : (str l).toList = l.map UInt8.ofNat := by
  rw [ByteArray.toList_eq]
  simp [str]
theorem str_inj {a b : List Nat} (ha : ∀ x ∈ a, x < 256) (hb : ∀ x ∈ b, x < 256) (h : str a = str b) : a = b := by
  have h1 : a.map UInt8.ofNat = b.map UInt8.ofNat := by
    have := congrArg (fun s : ByteArray => s.data.toList) h
    simpa [str] using this
  have h2 := congrArg (List.map UInt8.toNat) h1
  rw [List.map_map, List.map_map] at h2
  have e : ∀ (l : List Nat), (∀ x ∈ l, x < 256) → l.map (UInt8.toNat ∘ UInt8.ofNat) = l := by
    intro l hl
    rw [List.map_congr_left (g := id)]
    · simp
    · intro x hx
      have := hl x hx
      simp
      omega
  rwa [e a ha, e b hb] at h2
theorem str_beq (a : List Nat) : ((str a).toList == (str a).toList) = true := by simp
theorem str_bne {a b : List Nat} (ha : ∀ x ∈ a, x < 256) (hb : ∀ x ∈ b, x < 256) (h : a ≠ b) : ((str a).toList == (str b).toList) = false := by
  rw [beq_eq_false_iff_ne, ByteArray.toList_eq, ByteArray.toList_eq]
  intro h2
  exact h (str_inj ha hb (by
    have h3 : (str a).data = (str b).data := Array.toList_inj.1 h2
    cases ha' : str a
    cases hb' : str b
    rw [ha', hb'] at h3
    simp only at h3
    rw [h3]))
end Go.Proofs.YtjbnilippcdgeaaDoor
