/- Texts merged: MsgP, Sum, Env, Uint, Keep, Seal, Writers, ReadersO, ReadersD, Read9, OpenE, MsgObj, ReadM, WeighB, Lives9, Small9, Back9M. -/
import Derived.Test.YtehiaeihkdfclaaGreatDoorBaseN1
import Derived.Test.YtehiaeihkdfclaaGreatDoorBaseN2
import Derived.Test.YtehiaeihkdfclaaGreatDoorBaseN3
import Derived.Test.YtehiaeihkdfclaaGreatDoorRows
import Derived.Laws.BitsAllLaws
import Derived.Laws.BitsLemmas
import Derived.WalkLawsBesides
import Derived.Handy
import Derived.Test.YtehiaeihkdfclaaGreatDoorProg
/- The parts of a message. -/
namespace Go.Proofs.YtehiaeihkdfclaaGreatDoor
open Go.RowKit

/-- What they do. -/
def MsgW (g o a b : Nat) (w' : World) (ps : List PartV) : Prop :=
  (∀ (St : World → Prop) (m : MsgD) (k : Nat), m.sm k → k ≤ 5000 → (∀ w w', St w → Later w w' → St w') → (∀ w, St w → MsgIn g o m w) → WrAll a b w' St ps (msgFs m)) ∧
  (∀ (Inv : (Nat → Prop) → MsgD → World → Prop), InvOK Inv → MsgPl Inv g o → RdAll a b w' Inv msgSz ps msgPs)

set_option maxHeartbeats 8000000 in
set_option maxRecDepth 100000 in
theorem msgParts_any {w : World} {g o : Nat} (hg : g < w.heap.size) : Calls Tryz.prog 32 #[.pointer (some ⟨g, o, none⟩)] w (PartsIs 17 (MsgW g o) w) := by
  obtain ⟨i0, hi, hz0, hz1, _⟩ := info_parts Tryz.infoPart
  have HG := hide hg
  have L0 : Hid (Later w w.drew) := Later.drew w
  clear hg
  go_enter Tryz.func32, Tryz.ntmps32
  go_wp2
  refine wp_region_L (by kernel_rfl) ?_
  refine wpAnyL_take (i := 0) (d := some 3) (v := ?vam0) rfl rfl (by kernel_rfl) (by kernel_rfl) (by kernel_rfl) (fun _ _ _ h => h) (by rfl) ?yam0 ?_
  case yam0 => (intro w' hw'; go_simp; try (with_reducible rfl))
  simp only [Act.put]; try simp only [List.setIfInBounds_toArray]; try simp only [List.set_cons_zero, List.set_cons_succ]
  refine wpAnyL_take (i := 1) (d := some 4) (v := ?vam1) rfl rfl (by kernel_rfl) (by kernel_rfl) (by kernel_rfl) (fun _ _ _ h => h) (by rfl) ?yam1 ?_
  case yam1 => (intro w' hw'; go_simp; try (with_reducible rfl))
  simp only [Act.put]; try simp only [List.setIfInBounds_toArray]; try simp only [List.set_cons_zero, List.set_cons_succ]
  refine wpAnyL_take (i := 2) (d := some 5) (v := ?vam2) rfl rfl (by kernel_rfl) (by kernel_rfl) (by kernel_rfl) (fun _ _ _ h => h) (by rfl) ?yam2 ?_
  case yam2 => (intro w' hw'; go_simp; try (with_reducible rfl))
  simp only [Act.put]; try simp only [List.setIfInBounds_toArray]; try simp only [List.set_cons_zero, List.set_cons_succ]
  refine wpAnyL_take (i := 4) (d := some 7) (v := ?vam4) rfl rfl (by kernel_rfl) (by kernel_rfl) (by kernel_rfl) (fun _ _ _ h => h) (by rfl) ?yam4 ?_
  case yam4 => (intro w' hw'; go_simp; try (with_reducible rfl))
  simp only [Act.put]; try simp only [List.setIfInBounds_toArray]; try simp only [List.set_cons_zero, List.set_cons_succ]
  refine wpAnyL_take (i := 5) (d := some 8) (v := ?vam5) rfl rfl (by kernel_rfl) (by kernel_rfl) (by kernel_rfl) (fun _ _ _ h => h) (by rfl) ?yam5 ?_
  case yam5 => (intro w' hw'; go_simp; try (with_reducible rfl))
  simp only [Act.put]; try simp only [List.setIfInBounds_toArray]; try simp only [List.set_cons_zero, List.set_cons_succ]
  refine wpAnyL_take (i := 6) (d := some 9) (v := ?vam6) rfl rfl (by kernel_rfl) (by kernel_rfl) (by kernel_rfl) (fun _ _ _ h => h) (by rfl) ?yam6 ?_
  case yam6 => (intro w' hw'; go_simp; try (with_reducible rfl))
  simp only [Act.put]; try simp only [List.setIfInBounds_toArray]; try simp only [List.set_cons_zero, List.set_cons_succ]
  refine wpAnyL_take (i := 8) (d := some 11) (v := ?vam8) rfl rfl (by kernel_rfl) (by kernel_rfl) (by kernel_rfl) (fun _ _ _ h => h) (by rfl) ?yam8 ?_
  case yam8 => (intro w' hw'; go_simp; try (with_reducible rfl))
  simp only [Act.put]; try simp only [List.setIfInBounds_toArray]; try simp only [List.set_cons_zero, List.set_cons_succ]
  refine wpAnyL_take (i := 9) (d := some 12) (v := ?vam9) rfl rfl (by kernel_rfl) (by kernel_rfl) (by kernel_rfl) (fun _ _ _ h => h) (by rfl) ?yam9 ?_
  case yam9 => (intro w' hw'; go_simp; try (with_reducible rfl))
  simp only [Act.put]; try simp only [List.setIfInBounds_toArray]; try simp only [List.set_cons_zero, List.set_cons_succ]
  refine wpAnyL_take (i := 10) (d := some 13) (v := ?vam10) rfl rfl (by kernel_rfl) (by kernel_rfl) (by kernel_rfl) (fun _ _ _ h => h) (by rfl) ?yam10 ?_
  case yam10 => (intro w' hw'; go_simp; try (with_reducible rfl))
  simp only [Act.put]; try simp only [List.setIfInBounds_toArray]; try simp only [List.set_cons_zero, List.set_cons_succ]
  refine wpAnyL_take (i := 12) (d := some 15) (v := ?vam12) rfl rfl (by kernel_rfl) (by kernel_rfl) (by kernel_rfl) (fun _ _ _ h => h) (by rfl) ?yam12 ?_
  case yam12 => (intro w' hw'; go_simp; try (with_reducible rfl))
  simp only [Act.put]; try simp only [List.setIfInBounds_toArray]; try simp only [List.set_cons_zero, List.set_cons_succ]
  refine wpAnyL_take (i := 13) (d := some 16) (v := ?vam13) rfl rfl (by kernel_rfl) (by kernel_rfl) (by kernel_rfl) (fun _ _ _ h => h) (by rfl) ?yam13 ?_
  case yam13 => (intro w' hw'; go_simp; try (with_reducible rfl))
  simp only [Act.put]; try simp only [List.setIfInBounds_toArray]; try simp only [List.set_cons_zero, List.set_cons_succ]
  refine wpAnyL_take (i := 14) (d := some 17) (v := ?vam14) rfl rfl (by kernel_rfl) (by kernel_rfl) (by kernel_rfl) (fun _ _ _ h => h) (by rfl) ?yam14 ?_
  case yam14 => (intro w' hw'; go_simp; try (with_reducible rfl))
  simp only [Act.put]; try simp only [List.setIfInBounds_toArray]; try simp only [List.set_cons_zero, List.set_cons_succ]
  refine wpAnyL_take (i := 16) (d := some 19) (v := ?vam16) rfl rfl (by kernel_rfl) (by kernel_rfl) (by kernel_rfl) (fun _ _ _ h => h) (by rfl) ?yam16 ?_
  case yam16 => (intro w' hw'; go_simp; try (with_reducible rfl))
  simp only [Act.put]; try simp only [List.setIfInBounds_toArray]; try simp only [List.set_cons_zero, List.set_cons_succ]
  refine wpAnyL_take (i := 17) (d := some 20) (v := ?vam17) rfl rfl (by kernel_rfl) (by kernel_rfl) (by kernel_rfl) (fun _ _ _ h => h) (by rfl) ?yam17 ?_
  case yam17 => (intro w' hw'; go_simp; try (with_reducible rfl))
  simp only [Act.put]; try simp only [List.setIfInBounds_toArray]; try simp only [List.set_cons_zero, List.set_cons_succ]
  refine wpAnyL_take (i := 18) (d := some 21) (v := ?vam18) rfl rfl (by kernel_rfl) (by kernel_rfl) (by kernel_rfl) (fun _ _ _ h => h) (by rfl) ?yam18 ?_
  case yam18 => (intro w' hw'; go_simp; try (with_reducible rfl))
  simp only [Act.put]; try simp only [List.setIfInBounds_toArray]; try simp only [List.set_cons_zero, List.set_cons_succ]
  refine wpAnyL_take (i := 20) (d := some 23) (v := ?vam20) rfl rfl (by kernel_rfl) (by kernel_rfl) (by kernel_rfl) (fun _ _ _ h => h) (by rfl) ?yam20 ?_
  case yam20 => (intro w' hw'; go_simp; try (with_reducible rfl))
  simp only [Act.put]; try simp only [List.setIfInBounds_toArray]; try simp only [List.set_cons_zero, List.set_cons_succ]
  refine wpAnyL_take (i := 21) (d := some 24) (v := ?vam21) rfl rfl (by kernel_rfl) (by kernel_rfl) (by kernel_rfl) (fun _ _ _ h => h) (by rfl) ?yam21 ?_
  case yam21 => (intro w' hw'; go_simp; try (with_reducible rfl))
  simp only [Act.put]; try simp only [List.setIfInBounds_toArray]; try simp only [List.set_cons_zero, List.set_cons_succ]
  refine wpAnyL_take (i := 22) (d := some 25) (v := ?vam22) rfl rfl (by kernel_rfl) (by kernel_rfl) (by kernel_rfl) (fun _ _ _ h => h) (by rfl) ?yam22 ?_
  case yam22 => (intro w' hw'; go_simp; try (with_reducible rfl))
  simp only [Act.put]; try simp only [List.setIfInBounds_toArray]; try simp only [List.set_cons_zero, List.set_cons_succ]
  refine wpAnyL_take (i := 24) (d := some 27) (v := ?vam24) rfl rfl (by kernel_rfl) (by kernel_rfl) (by kernel_rfl) (fun _ _ _ h => h) (by rfl) ?yam24 ?_
  case yam24 => (intro w' hw'; go_simp; try (with_reducible rfl))
  simp only [Act.put]; try simp only [List.setIfInBounds_toArray]; try simp only [List.set_cons_zero, List.set_cons_succ]
  refine wpAnyL_take (i := 25) (d := some 28) (v := ?vam25) rfl rfl (by kernel_rfl) (by kernel_rfl) (by kernel_rfl) (fun _ _ _ h => h) (by rfl) ?yam25 ?_
  case yam25 => (intro w' hw'; go_simp; try (with_reducible rfl))
  simp only [Act.put]; try simp only [List.setIfInBounds_toArray]; try simp only [List.set_cons_zero, List.set_cons_succ]
  refine wpAnyL_take (i := 26) (d := some 29) (v := ?vam26) rfl rfl (by kernel_rfl) (by kernel_rfl) (by kernel_rfl) (fun _ _ _ h => h) (by rfl) ?yam26 ?_
  case yam26 => (intro w' hw'; go_simp; try (with_reducible rfl))
  simp only [Act.put]; try simp only [List.setIfInBounds_toArray]; try simp only [List.set_cons_zero, List.set_cons_succ]
  refine wpAnyL_take (i := 28) (d := some 31) (v := ?vam28) rfl rfl (by kernel_rfl) (by kernel_rfl) (by kernel_rfl) (fun _ _ _ h => h) (by rfl) ?yam28 ?_
  case yam28 => (intro w' hw'; go_simp; try (with_reducible rfl))
  simp only [Act.put]; try simp only [List.setIfInBounds_toArray]; try simp only [List.set_cons_zero, List.set_cons_succ]
  refine wpAnyL_take (i := 29) (d := some 32) (v := ?vam29) rfl rfl (by kernel_rfl) (by kernel_rfl) (by kernel_rfl) (fun _ _ _ h => h) (by rfl) ?yam29 ?_
  case yam29 => (intro w' hw'; go_simp; try (with_reducible rfl))
  simp only [Act.put]; try simp only [List.setIfInBounds_toArray]; try simp only [List.set_cons_zero, List.set_cons_succ]
  refine wpAnyL_take (i := 30) (d := some 33) (v := ?vam30) rfl rfl (by kernel_rfl) (by kernel_rfl) (by kernel_rfl) (fun _ _ _ h => h) (by rfl) ?yam30 ?_
  case yam30 => (intro w' hw'; go_simp; try (with_reducible rfl))
  simp only [Act.put]; try simp only [List.setIfInBounds_toArray]; try simp only [List.set_cons_zero, List.set_cons_succ]
  refine wpAnyL_take (i := 32) (d := some 35) (v := ?vam32) rfl rfl (by kernel_rfl) (by kernel_rfl) (by kernel_rfl) (fun _ _ _ h => h) (by rfl) ?yam32 ?_
  case yam32 => (intro w' hw'; go_simp; try (with_reducible rfl))
  simp only [Act.put]; try simp only [List.setIfInBounds_toArray]; try simp only [List.set_cons_zero, List.set_cons_succ]
  refine wpAnyL_take (i := 33) (d := some 36) (v := ?vam33) rfl rfl (by kernel_rfl) (by kernel_rfl) (by kernel_rfl) (fun _ _ _ h => h) (by rfl) ?yam33 ?_
  case yam33 => (intro w' hw'; go_simp; try (with_reducible rfl))
  simp only [Act.put]; try simp only [List.setIfInBounds_toArray]; try simp only [List.set_cons_zero, List.set_cons_succ]
  refine wpAnyL_take (i := 34) (d := some 37) (v := ?vam34) rfl rfl (by kernel_rfl) (by kernel_rfl) (by kernel_rfl) (fun _ _ _ h => h) (by rfl) ?yam34 ?_
  case yam34 => (intro w' hw'; go_simp; try (with_reducible rfl))
  simp only [Act.put]; try simp only [List.setIfInBounds_toArray]; try simp only [List.set_cons_zero, List.set_cons_succ]
  refine wpAnyL_take (i := 36) (d := some 39) (v := ?vam36) rfl rfl (by kernel_rfl) (by kernel_rfl) (by kernel_rfl) (fun _ _ _ h => h) (by rfl) ?yam36 ?_
  case yam36 => (intro w' hw'; go_simp; try (with_reducible rfl))
  simp only [Act.put]; try simp only [List.setIfInBounds_toArray]; try simp only [List.set_cons_zero, List.set_cons_succ]
  refine wpAnyL_take (i := 37) (d := some 40) (v := ?vam37) rfl rfl (by kernel_rfl) (by kernel_rfl) (by kernel_rfl) (fun _ _ _ h => h) (by rfl) ?yam37 ?_
  case yam37 => (intro w' hw'; go_simp; try (with_reducible rfl))
  simp only [Act.put]; try simp only [List.setIfInBounds_toArray]; try simp only [List.set_cons_zero, List.set_cons_succ]
  refine wpAnyL_take (i := 38) (d := some 41) (v := ?vam38) rfl rfl (by kernel_rfl) (by kernel_rfl) (by kernel_rfl) (fun _ _ _ h => h) (by rfl) ?yam38 ?_
  case yam38 => (intro w' hw'; go_simp; try (with_reducible rfl))
  simp only [Act.put]; try simp only [List.setIfInBounds_toArray]; try simp only [List.set_cons_zero, List.set_cons_succ]
  refine wpAnyL_take (i := 40) (d := some 43) (v := ?vam40) rfl rfl (by kernel_rfl) (by kernel_rfl) (by kernel_rfl) (fun _ _ _ h => h) (by rfl) ?yam40 ?_
  case yam40 => (intro w' hw'; go_simp; try (with_reducible rfl))
  simp only [Act.put]; try simp only [List.setIfInBounds_toArray]; try simp only [List.set_cons_zero, List.set_cons_succ]
  refine wpAnyL_take (i := 41) (d := some 44) (v := ?vam41) rfl rfl (by kernel_rfl) (by kernel_rfl) (by kernel_rfl) (fun _ _ _ h => h) (by rfl) ?yam41 ?_
  case yam41 => (intro w' hw'; go_simp; try (with_reducible rfl))
  simp only [Act.put]; try simp only [List.setIfInBounds_toArray]; try simp only [List.set_cons_zero, List.set_cons_succ]
  refine wpAnyL_take (i := 42) (d := some 45) (v := ?vam42) rfl rfl (by kernel_rfl) (by kernel_rfl) (by kernel_rfl) (fun _ _ _ h => h) (by rfl) ?yam42 ?_
  case yam42 => (intro w' hw'; go_simp; try (with_reducible rfl))
  simp only [Act.put]; try simp only [List.setIfInBounds_toArray]; try simp only [List.set_cons_zero, List.set_cons_succ]
  refine wpAnyL_take (i := 44) (d := some 47) (v := ?vam44) rfl rfl (by kernel_rfl) (by kernel_rfl) (by kernel_rfl) (fun _ _ _ h => h) (by rfl) ?yam44 ?_
  case yam44 => (intro w' hw'; go_simp; try (with_reducible rfl))
  simp only [Act.put]; try simp only [List.setIfInBounds_toArray]; try simp only [List.set_cons_zero, List.set_cons_succ]
  refine wpAnyL_take (i := 45) (d := some 48) (v := ?vam45) rfl rfl (by kernel_rfl) (by kernel_rfl) (by kernel_rfl) (fun _ _ _ h => h) (by rfl) ?yam45 ?_
  case yam45 => (intro w' hw'; go_simp; try (with_reducible rfl))
  simp only [Act.put]; try simp only [List.setIfInBounds_toArray]; try simp only [List.set_cons_zero, List.set_cons_succ]
  refine wpAnyL_take (i := 46) (d := some 49) (v := ?vam46) rfl rfl (by kernel_rfl) (by kernel_rfl) (by kernel_rfl) (fun _ _ _ h => h) (by rfl) ?yam46 ?_
  case yam46 => (intro w' hw'; go_simp; try (with_reducible rfl))
  simp only [Act.put]; try simp only [List.setIfInBounds_toArray]; try simp only [List.set_cons_zero, List.set_cons_succ]
  refine wpAnyL_take (i := 48) (d := some 51) (v := ?vam48) rfl rfl (by kernel_rfl) (by kernel_rfl) (by kernel_rfl) (fun _ _ _ h => h) (by rfl) ?yam48 ?_
  case yam48 => (intro w' hw'; go_simp; try (with_reducible rfl))
  simp only [Act.put]; try simp only [List.setIfInBounds_toArray]; try simp only [List.set_cons_zero, List.set_cons_succ]
  refine wpAnyL_take (i := 49) (d := some 52) (v := ?vam49) rfl rfl (by kernel_rfl) (by kernel_rfl) (by kernel_rfl) (fun _ _ _ h => h) (by rfl) ?yam49 ?_
  case yam49 => (intro w' hw'; go_simp; try (with_reducible rfl))
  simp only [Act.put]; try simp only [List.setIfInBounds_toArray]; try simp only [List.set_cons_zero, List.set_cons_succ]
  refine wpAnyL_take (i := 50) (d := some 53) (v := ?vam50) rfl rfl (by kernel_rfl) (by kernel_rfl) (by kernel_rfl) (fun _ _ _ h => h) (by rfl) ?yam50 ?_
  case yam50 => (intro w' hw'; go_simp; try (with_reducible rfl))
  simp only [Act.put]; try simp only [List.setIfInBounds_toArray]; try simp only [List.set_cons_zero, List.set_cons_succ]
  refine wpAnyL_take (i := 53) (d := some 56) (v := ?vam53) rfl rfl (by kernel_rfl) (by kernel_rfl) (by kernel_rfl) (fun _ _ _ h => h) (by rfl) ?yam53 ?_
  case yam53 => (intro w' hw'; go_simp; try (with_reducible rfl))
  simp only [Act.put]; try simp only [List.setIfInBounds_toArray]; try simp only [List.set_cons_zero, List.set_cons_succ]
  refine wpAnyL_take (i := 54) (d := some 57) (v := ?vam54) rfl rfl (by kernel_rfl) (by kernel_rfl) (by kernel_rfl) (fun _ _ _ h => h) (by rfl) ?yam54 ?_
  case yam54 => (intro w' hw'; go_simp; try (with_reducible rfl))
  simp only [Act.put]; try simp only [List.setIfInBounds_toArray]; try simp only [List.set_cons_zero, List.set_cons_succ]
  refine wpAnyL_take (i := 55) (d := some 58) (v := ?vam55) rfl rfl (by kernel_rfl) (by kernel_rfl) (by kernel_rfl) (fun _ _ _ h => h) (by rfl) ?yam55 ?_
  case yam55 => (intro w' hw'; go_simp; try (with_reducible rfl))
  simp only [Act.put]; try simp only [List.setIfInBounds_toArray]; try simp only [List.set_cons_zero, List.set_cons_succ]
  refine wpAnyL_take (i := 58) (d := some 61) (v := ?vam58) rfl rfl (by kernel_rfl) (by kernel_rfl) (by kernel_rfl) (fun _ _ _ h => h) (by rfl) ?yam58 ?_
  case yam58 => (intro w' hw'; go_simp; try (with_reducible rfl))
  simp only [Act.put]; try simp only [List.setIfInBounds_toArray]; try simp only [List.set_cons_zero, List.set_cons_succ]
  refine wpAnyL_take (i := 59) (d := some 62) (v := ?vam59) rfl rfl (by kernel_rfl) (by kernel_rfl) (by kernel_rfl) (fun _ _ _ h => h) (by rfl) ?yam59 ?_
  case yam59 => (intro w' hw'; go_simp; try (with_reducible rfl))
  simp only [Act.put]; try simp only [List.setIfInBounds_toArray]; try simp only [List.set_cons_zero, List.set_cons_succ]
  refine wpAnyL_take (i := 60) (d := some 63) (v := ?vam60) rfl rfl (by kernel_rfl) (by kernel_rfl) (by kernel_rfl) (fun _ _ _ h => h) (by rfl) ?yam60 ?_
  case yam60 => (intro w' hw'; go_simp; try (with_reducible rfl))
  simp only [Act.put]; try simp only [List.setIfInBounds_toArray]; try simp only [List.set_cons_zero, List.set_cons_succ]
  refine wpAnyL_take (i := 63) (d := some 66) (v := ?vam63) rfl rfl (by kernel_rfl) (by kernel_rfl) (by kernel_rfl) (fun _ _ _ h => h) (by rfl) ?yam63 ?_
  case yam63 => (intro w' hw'; go_simp; try (with_reducible rfl))
  simp only [Act.put]; try simp only [List.setIfInBounds_toArray]; try simp only [List.set_cons_zero, List.set_cons_succ]
  refine wpAnyL_take (i := 64) (d := some 67) (v := ?vam64) rfl rfl (by kernel_rfl) (by kernel_rfl) (by kernel_rfl) (fun _ _ _ h => h) (by rfl) ?yam64 ?_
  case yam64 => (intro w' hw'; go_simp; try (with_reducible rfl))
  simp only [Act.put]; try simp only [List.setIfInBounds_toArray]; try simp only [List.set_cons_zero, List.set_cons_succ]
  refine wpAnyL_take (i := 65) (d := some 68) (v := ?vam65) rfl rfl (by kernel_rfl) (by kernel_rfl) (by kernel_rfl) (fun _ _ _ h => h) (by rfl) ?yam65 ?_
  case yam65 => (intro w' hw'; go_simp; try (with_reducible rfl))
  simp only [Act.put]; try simp only [List.setIfInBounds_toArray]; try simp only [List.set_cons_zero, List.set_cons_succ]
  refine wpAnyL_take (i := 67) (d := some 70) (v := ?vam67) rfl rfl (by kernel_rfl) (by kernel_rfl) (by kernel_rfl) (fun _ _ _ h => h) (by rfl) ?yam67 ?_
  case yam67 => (intro w' hw'; go_simp; try (with_reducible rfl))
  simp only [Act.put]; try simp only [List.setIfInBounds_toArray]; try simp only [List.set_cons_zero, List.set_cons_succ]
  refine wpAnyL_take (i := 68) (d := some 71) (v := ?vam68) rfl rfl (by kernel_rfl) (by kernel_rfl) (by kernel_rfl) (fun _ _ _ h => h) (by rfl) ?yam68 ?_
  case yam68 => (intro w' hw'; go_simp; try (with_reducible rfl))
  simp only [Act.put]; try simp only [List.setIfInBounds_toArray]; try simp only [List.set_cons_zero, List.set_cons_succ]
  refine wpAnyL_take (i := 69) (d := some 72) (v := ?vam69) rfl rfl (by kernel_rfl) (by kernel_rfl) (by kernel_rfl) (fun _ _ _ h => h) (by rfl) ?yam69 ?_
  case yam69 => (intro w' hw'; go_simp; try (with_reducible rfl))
  simp only [Act.put]; try simp only [List.setIfInBounds_toArray]; try simp only [List.set_cons_zero, List.set_cons_succ]
  refine wpAnyL_only (i := 3) rfl (by kernel_rfl) (by rfl) fun K hK => ?_
  go_simp
  refine (num_any9 (num := 1) (g := g) (o := o) (one_i64 (by omega) (by omega)) (by have h2 := HG.out; exact h2)).mono ?_
  rintro e w1 ⟨p1, rfl, hn, l1, hw1, hr1⟩
  refine hK.out _ _ l1 ?_
  have W1 := hide hw1
  have R1 := hide hr1
  have N1 := hide hn
  have K1 := hide l1
  have A1 := hide ((Later.drew w).trans l1)
  clear hn hw1 hr1 l1
  clear hK K
  try (simp only [Act.put]; try simp only [List.setIfInBounds_toArray]; try simp only [List.set_cons_zero, List.set_cons_succ])
  refine wpAnyL_only (i := 7) rfl (by kernel_rfl) (by rfl) fun K hK => ?_
  go_simp
  refine (num_any9 (num := 2) (g := g) (o := (o + 1)) (one_i64 (by omega) (by omega)) (by have h1 := Below.size A1.out; have h2 := HG.out; omega)).mono ?_
  rintro e w2 ⟨p2, rfl, hn, l2, hw2, hr2⟩
  refine hK.out _ _ l2 ?_
  have W2 := hide hw2
  have R2 := hide hr2
  have N2 := hide hn
  have K2 := hide l2
  have A2 := hide (A1.out.trans l2)
  clear hn hw2 hr2 l2
  clear hK K
  try (simp only [Act.put]; try simp only [List.setIfInBounds_toArray]; try simp only [List.set_cons_zero, List.set_cons_succ])
  refine wpAnyL_only (i := 11) rfl (by kernel_rfl) (by rfl) fun K hK => ?_
  go_simp
  refine (num_any9 (num := 3) (g := g) (o := (o + 2)) (one_i64 (by omega) (by omega)) (by have h1 := Below.size A2.out; have h2 := HG.out; omega)).mono ?_
  rintro e w3 ⟨p3, rfl, hn, l3, hw3, hr3⟩
  refine hK.out _ _ l3 ?_
  have W3 := hide hw3
  have R3 := hide hr3
  have N3 := hide hn
  have K3 := hide l3
  have A3 := hide (A2.out.trans l3)
  clear hn hw3 hr3 l3
  clear hK K
  try (simp only [Act.put]; try simp only [List.setIfInBounds_toArray]; try simp only [List.set_cons_zero, List.set_cons_succ])
  refine wpAnyL_only (i := 15) rfl (by kernel_rfl) (by rfl) fun K hK => ?_
  go_simp
  refine (num_any9 (num := 4) (g := g) (o := (o + 3)) (one_i64 (by omega) (by omega)) (by have h1 := Below.size A3.out; have h2 := HG.out; omega)).mono ?_
  rintro e w4 ⟨p4, rfl, hn, l4, hw4, hr4⟩
  refine hK.out _ _ l4 ?_
  have W4 := hide hw4
  have R4 := hide hr4
  have N4 := hide hn
  have K4 := hide l4
  have A4 := hide (A3.out.trans l4)
  clear hn hw4 hr4 l4
  clear hK K
  try (simp only [Act.put]; try simp only [List.setIfInBounds_toArray]; try simp only [List.set_cons_zero, List.set_cons_succ])
  refine wpAnyL_only (i := 19) rfl (by kernel_rfl) (by rfl) fun K hK => ?_
  go_simp
  refine (num_any9 (num := 5) (g := g) (o := (o + 4)) (one_i64 (by omega) (by omega)) (by have h1 := Below.size A4.out; have h2 := HG.out; omega)).mono ?_
  rintro e w5 ⟨p5, rfl, hn, l5, hw5, hr5⟩
  refine hK.out _ _ l5 ?_
  have W5 := hide hw5
  have R5 := hide hr5
  have N5 := hide hn
  have K5 := hide l5
  have A5 := hide (A4.out.trans l5)
  clear hn hw5 hr5 l5
  clear hK K
  try (simp only [Act.put]; try simp only [List.setIfInBounds_toArray]; try simp only [List.set_cons_zero, List.set_cons_succ])
  refine wpAnyL_only (i := 23) rfl (by kernel_rfl) (by rfl) fun K hK => ?_
  go_simp
  refine (num_any9 (num := 6) (g := g) (o := (o + 5)) (one_i64 (by omega) (by omega)) (by have h1 := Below.size A5.out; have h2 := HG.out; omega)).mono ?_
  rintro e w6 ⟨p6, rfl, hn, l6, hw6, hr6⟩
  refine hK.out _ _ l6 ?_
  have W6 := hide hw6
  have R6 := hide hr6
  have N6 := hide hn
  have K6 := hide l6
  have A6 := hide (A5.out.trans l6)
  clear hn hw6 hr6 l6
  clear hK K
  try (simp only [Act.put]; try simp only [List.setIfInBounds_toArray]; try simp only [List.set_cons_zero, List.set_cons_succ])
  refine wpAnyL_only (i := 27) rfl (by kernel_rfl) (by rfl) fun K hK => ?_
  go_simp
  refine (num_any9 (num := 7) (g := g) (o := (o + 6)) (one_i64 (by omega) (by omega)) (by have h1 := Below.size A6.out; have h2 := HG.out; omega)).mono ?_
  rintro e w7 ⟨p7, rfl, hn, l7, hw7, hr7⟩
  refine hK.out _ _ l7 ?_
  have W7 := hide hw7
  have R7 := hide hr7
  have N7 := hide hn
  have K7 := hide l7
  have A7 := hide (A6.out.trans l7)
  clear hn hw7 hr7 l7
  clear hK K
  try (simp only [Act.put]; try simp only [List.setIfInBounds_toArray]; try simp only [List.set_cons_zero, List.set_cons_succ])
  refine wpAnyL_only (i := 31) rfl (by kernel_rfl) (by rfl) fun K hK => ?_
  go_simp
  refine (num_any9 (num := 8) (g := g) (o := (o + 7)) (one_i64 (by omega) (by omega)) (by have h1 := Below.size A7.out; have h2 := HG.out; omega)).mono ?_
  rintro e w8 ⟨p8, rfl, hn, l8, hw8, hr8⟩
  refine hK.out _ _ l8 ?_
  have W8 := hide hw8
  have R8 := hide hr8
  have N8 := hide hn
  have K8 := hide l8
  have A8 := hide (A7.out.trans l8)
  clear hn hw8 hr8 l8
  clear hK K
  try (simp only [Act.put]; try simp only [List.setIfInBounds_toArray]; try simp only [List.set_cons_zero, List.set_cons_succ])
  refine wpAnyL_only (i := 35) rfl (by kernel_rfl) (by rfl) fun K hK => ?_
  go_simp
  refine (num_any9 (num := 9) (g := g) (o := (o + 8)) (one_i64 (by omega) (by omega)) (by have h1 := Below.size A8.out; have h2 := HG.out; omega)).mono ?_
  rintro e w9 ⟨p9, rfl, hn, l9, hw9, hr9⟩
  refine hK.out _ _ l9 ?_
  have W9 := hide hw9
  have R9 := hide hr9
  have N9 := hide hn
  have K9 := hide l9
  have A9 := hide (A8.out.trans l9)
  clear hn hw9 hr9 l9
  clear hK K
  try (simp only [Act.put]; try simp only [List.setIfInBounds_toArray]; try simp only [List.set_cons_zero, List.set_cons_succ])
  refine wpAnyL_only (i := 39) rfl (by kernel_rfl) (by rfl) fun K hK => ?_
  go_simp
  refine (flag_any (num := 10) (g := g) (o := (o + 9)) (one_i64 (by omega) (by omega)) (by have h1 := Below.size A9.out; have h2 := HG.out; omega)).mono ?_
  rintro e w10 ⟨p10, rfl, hn, l10, hw10, hr10⟩
  refine hK.out _ _ l10 ?_
  have W10 := hide hw10
  have R10 := hide hr10
  have N10 := hide hn
  have K10 := hide l10
  have A10 := hide (A9.out.trans l10)
  clear hn hw10 hr10 l10
  clear hK K
  try (simp only [Act.put]; try simp only [List.setIfInBounds_toArray]; try simp only [List.set_cons_zero, List.set_cons_succ])
  refine wpAnyL_only (i := 43) rfl (by kernel_rfl) (by rfl) fun K hK => ?_
  go_simp
  refine (flag_any (num := 11) (g := g) (o := (o + 10)) (one_i64 (by omega) (by omega)) (by have h1 := Below.size A10.out; have h2 := HG.out; omega)).mono ?_
  rintro e w11 ⟨p11, rfl, hn, l11, hw11, hr11⟩
  refine hK.out _ _ l11 ?_
  have W11 := hide hw11
  have R11 := hide hr11
  have N11 := hide hn
  have K11 := hide l11
  have A11 := hide (A10.out.trans l11)
  clear hn hw11 hr11 l11
  clear hK K
  try (simp only [Act.put]; try simp only [List.setIfInBounds_toArray]; try simp only [List.set_cons_zero, List.set_cons_succ])
  refine wpAnyL_only (i := 47) rfl (by kernel_rfl) (by rfl) fun K hK => ?_
  go_simp
  refine (flag_any (num := 12) (g := g) (o := (o + 11)) (one_i64 (by omega) (by omega)) (by have h1 := Below.size A11.out; have h2 := HG.out; omega)).mono ?_
  rintro e w12 ⟨p12, rfl, hn, l12, hw12, hr12⟩
  refine hK.out _ _ l12 ?_
  have W12 := hide hw12
  have R12 := hide hr12
  have N12 := hide hn
  have K12 := hide l12
  have A12 := hide (A11.out.trans l12)
  clear hn hw12 hr12 l12
  clear hK K
  try (simp only [Act.put]; try simp only [List.setIfInBounds_toArray]; try simp only [List.set_cons_zero, List.set_cons_succ])
  refine wpAnyL_only (i := 51) rfl (by kernel_rfl) (by rfl) fun K hK => ?_
  go_simp
  refine (opParts_any (g := g) (o := (o + 12)) (by have h1 := Below.size A12.out; have h2 := HG.out; omega)).mono ?_
  rintro e w13 ⟨q13, ps13, rfl, hlen, hpa, l13, hsub⟩
  refine hK.out _ _ l13 ?_
  have Q13 := hide hpa
  have V13 := hide hsub
  have M13 := hide hlen
  have K13 := hide l13
  have A13 := hide (A12.out.trans l13)
  clear hlen hpa hsub l13
  clear hK K
  try (simp only [Act.put]; try simp only [List.setIfInBounds_toArray]; try simp only [List.set_cons_zero, List.set_cons_succ])
  refine wpAnyL_only (i := 52) rfl (by kernel_rfl) (by rfl) fun K hK => ?_
  go_simp
  refine (record_any9 (num := 13) (a := (w12).heap.size) (b := w13.heap.size) (one_i64 (by omega) (by omega)) Q13.out M13.out.symm (Below.size K13.out) (Nat.le_refl _)).mono ?_
  rintro e w14 ⟨p13, rfl, hn, l14, hw13, hr13⟩
  refine hK.out _ _ l14 ?_
  have W13 := hide hw13
  have R13 := hide hr13
  have N13 := hide hn
  have K14 := hide l14
  have A14 := hide (A13.out.trans l14)
  clear hn hw13 hr13 l14
  clear hK K
  try (simp only [Act.put]; try simp only [List.setIfInBounds_toArray]; try simp only [List.set_cons_zero, List.set_cons_succ])
  refine wpAnyL_only (i := 56) rfl (by kernel_rfl) (by rfl) fun K hK => ?_
  go_simp
  refine (replyParts_any (g := g) (o := (o + 22)) (by have h1 := Below.size A14.out; have h2 := HG.out; omega)).mono ?_
  rintro e w15 ⟨q14, ps14, rfl, hlen, hpa, l15, hsub⟩
  refine hK.out _ _ l15 ?_
  have Q14 := hide hpa
  have V14 := hide hsub
  have M14 := hide hlen
  have K15 := hide l15
  have A15 := hide (A14.out.trans l15)
  clear hlen hpa hsub l15
  clear hK K
  try (simp only [Act.put]; try simp only [List.setIfInBounds_toArray]; try simp only [List.set_cons_zero, List.set_cons_succ])
  refine wpAnyL_only (i := 57) rfl (by kernel_rfl) (by rfl) fun K hK => ?_
  go_simp
  refine (record_any9 (num := 14) (a := (w14).heap.size) (b := w15.heap.size) (one_i64 (by omega) (by omega)) Q14.out M14.out.symm (Below.size K15.out) (Nat.le_refl _)).mono ?_
  rintro e w16 ⟨p14, rfl, hn, l16, hw14, hr14⟩
  refine hK.out _ _ l16 ?_
  have W14 := hide hw14
  have R14 := hide hr14
  have N14 := hide hn
  have K16 := hide l16
  have A16 := hide (A15.out.trans l16)
  clear hn hw14 hr14 l16
  clear hK K
  try (simp only [Act.put]; try simp only [List.setIfInBounds_toArray]; try simp only [List.set_cons_zero, List.set_cons_succ])
  refine wpAnyL_only (i := 61) rfl (by kernel_rfl) (by rfl) fun K hK => ?_
  go_simp
  refine (commandParts_any (g := g) (o := (o + 26)) (by have h1 := Below.size A16.out; have h2 := HG.out; omega)).mono ?_
  rintro e w17 ⟨q15, ps15, rfl, hlen, hpa, l17, hsub⟩
  refine hK.out _ _ l17 ?_
  have Q15 := hide hpa
  have V15 := hide hsub
  have M15 := hide hlen
  have K17 := hide l17
  have A17 := hide (A16.out.trans l17)
  clear hlen hpa hsub l17
  clear hK K
  try (simp only [Act.put]; try simp only [List.setIfInBounds_toArray]; try simp only [List.set_cons_zero, List.set_cons_succ])
  refine wpAnyL_only (i := 62) rfl (by kernel_rfl) (by rfl) fun K hK => ?_
  go_simp
  refine (record_any9 (num := 15) (a := (w16).heap.size) (b := w17.heap.size) (one_i64 (by omega) (by omega)) Q15.out M15.out.symm (Below.size K17.out) (Nat.le_refl _)).mono ?_
  rintro e w18 ⟨p15, rfl, hn, l18, hw15, hr15⟩
  refine hK.out _ _ l18 ?_
  have W15 := hide hw15
  have R15 := hide hr15
  have N15 := hide hn
  have K18 := hide l18
  have A18 := hide (A17.out.trans l18)
  clear hn hw15 hr15 l18
  clear hK K
  try (simp only [Act.put]; try simp only [List.setIfInBounds_toArray]; try simp only [List.set_cons_zero, List.set_cons_succ])
  refine wpAnyL_only (i := 66) rfl (by kernel_rfl) (by rfl) fun K hK => ?_
  go_simp
  refine (recsO_any (num := 16) (g := g) (o := (o + 32)) (one_i64 (by omega) (by omega)) (by have h1 := Below.size A18.out; have h2 := HG.out; omega)).mono ?_
  rintro e w19 ⟨p16, rfl, hn, l19, hw16, hr16⟩
  refine hK.out _ _ l19 ?_
  have W16 := hide hw16
  have R16 := hide hr16
  have N16 := hide hn
  have K19 := hide l19
  have A19 := hide (A18.out.trans l19)
  clear hn hw16 hr16 l19
  clear hK K
  try (simp only [Act.put]; try simp only [List.setIfInBounds_toArray]; try simp only [List.set_cons_zero, List.set_cons_succ])
  refine wpAnyL_only (i := 70) rfl (by kernel_rfl) (by rfl) fun K hK => ?_
  go_simp
  refine (numbers_any (num := 17) (g := g) (o := (o + 33)) (one_i64 (by omega) (by omega)) (by have h1 := Below.size A19.out; have h2 := HG.out; omega)).mono ?_
  rintro e w20 ⟨p17, rfl, hn, l20, hw17, hr17⟩
  refine hK.out _ _ l20 ?_
  have W17 := hide hw17
  have R17 := hide hr17
  have N17 := hide hn
  have K20 := hide l20
  have A20 := hide (A19.out.trans l20)
  clear hn hw17 hr17 l20
  clear hK K
  try (simp only [Act.put]; try simp only [List.setIfInBounds_toArray]; try simp only [List.set_cons_zero, List.set_cons_succ])
  refine wpAnyL_only (i := 71) rfl (by kernel_rfl) (by rfl) fun K hK => ?_
  refine wp_buildSlice_many 63 110 _ 17 (by rfl) i0 _ 3 Tryz.underlying63 hi hz0 hz1 (by omega) (by omega) (by omega) [p1.cells.toArray, p2.cells.toArray, p3.cells.toArray, p4.cells.toArray, p5.cells.toArray, p6.cells.toArray, p7.cells.toArray, p8.cells.toArray, p9.cells.toArray, p10.cells.toArray, p11.cells.toArray, p12.cells.toArray, p13.cells.toArray, p14.cells.toArray, p15.cells.toArray, p16.cells.toArray, p17.cells.toArray] (by rfl) (by rfl) (by intro v hv; simp only [List.mem_cons, List.not_mem_nil, or_false] at hv; rcases hv with rfl | rfl | rfl | rfl | rfl | rfl | rfl | rfl | rfl | rfl | rfl | rfl | rfl | rfl | rfl | rfl | rfl <;> rfl) ?_
  refine hK.out _ _ (show Later w20 (w20.alloc (.cells (flatC [p1.cells.toArray, p2.cells.toArray, p3.cells.toArray, p4.cells.toArray, p5.cells.toArray, p6.cells.toArray, p7.cells.toArray, p8.cells.toArray, p9.cells.toArray, p10.cells.toArray, p11.cells.toArray, p12.cells.toArray, p13.cells.toArray, p14.cells.toArray, p15.cells.toArray, p16.cells.toArray, p17.cells.toArray]).toArray 110 (0, 0))) from Later.alloc _ _) (?_ : wpAnyL _ _ _ _ _ _ (Act.put _ (some 74) _) _)
  clear hK K
  try (simp only [Act.put]; try simp only [List.setIfInBounds_toArray]; try simp only [List.set_cons_zero, List.set_cons_succ])
  refine wpAnyL_take (i := 72) (d := some 2) (v := ?vam72) rfl rfl (by kernel_rfl) (by kernel_rfl) (by kernel_rfl) (fun _ _ _ h => h) (by rfl) ?yam72 ?_
  case yam72 => (intro w' hw'; go_simp; try (with_reducible rfl))
  simp only [Act.put]; try simp only [List.setIfInBounds_toArray]; try simp only [List.set_cons_zero, List.set_cons_succ]
  refine wpAnyL_done (by kernel_rfl) ?_ _
  go_wp2
  go_ret
  have hz : (w20.alloc (.cells (flatC [p1.cells.toArray, p2.cells.toArray, p3.cells.toArray, p4.cells.toArray, p5.cells.toArray, p6.cells.toArray, p7.cells.toArray, p8.cells.toArray, p9.cells.toArray, p10.cells.toArray, p11.cells.toArray, p12.cells.toArray, p13.cells.toArray, p14.cells.toArray, p15.cells.toArray, p16.cells.toArray, p17.cells.toArray]).toArray 110 (0, 0))).heap.size = w20.heap.size + 1 := World.size_alloc _ _
  have T20 : Later w20 (w20.alloc (.cells (flatC [p1.cells.toArray, p2.cells.toArray, p3.cells.toArray, p4.cells.toArray, p5.cells.toArray, p6.cells.toArray, p7.cells.toArray, p8.cells.toArray, p9.cells.toArray, p10.cells.toArray, p11.cells.toArray, p12.cells.toArray, p13.cells.toArray, p14.cells.toArray, p15.cells.toArray, p16.cells.toArray, p17.cells.toArray]).toArray 110 (0, 0))) := Later.alloc _ _
  have T19 := K20.out.trans T20
  have T18 := K19.out.trans T19
  have T17 := K18.out.trans T18
  have T16 := K17.out.trans T17
  have T15 := K16.out.trans T16
  have T14 := K15.out.trans T15
  have T13 := K14.out.trans T14
  have T12 := K13.out.trans T13
  have T11 := K12.out.trans T12
  have T10 := K11.out.trans T11
  have T9 := K10.out.trans T10
  have T8 := K9.out.trans T9
  have T7 := K8.out.trans T8
  have T6 := K7.out.trans T7
  have T5 := K6.out.trans T6
  have T4 := K5.out.trans T5
  have T3 := K4.out.trans T4
  have T2 := K3.out.trans T3
  have T1 := K2.out.trans T2
  have z1 := Below.size T1
  have z2 := Below.size T2
  have z3 := Below.size T3
  have z4 := Below.size T4
  have z5 := Below.size T5
  have z6 := Below.size T6
  have z7 := Below.size T7
  have z8 := Below.size T8
  have z9 := Below.size T9
  have z10 := Below.size T10
  have z11 := Below.size T11
  have z12 := Below.size T12
  have z13 := Below.size T13
  have z14 := Below.size T14
  have z15 := Below.size T15
  have z16 := Below.size T16
  have z17 := Below.size T17
  have z18 := Below.size T18
  have z19 := Below.size T19
  have z20 := Below.size T20
  have zd : w.drew.heap.size = w.heap.size := rfl
  have y1 := Below.size A1.out
  have y2 := Below.size A2.out
  have y3 := Below.size A3.out
  have y4 := Below.size A4.out
  have y5 := Below.size A5.out
  have y6 := Below.size A6.out
  have y7 := Below.size A7.out
  have y8 := Below.size A8.out
  have y9 := Below.size A9.out
  have y10 := Below.size A10.out
  have y11 := Below.size A11.out
  have y12 := Below.size A12.out
  have y13 := Below.size A13.out
  have y14 := Below.size A14.out
  have y15 := Below.size A15.out
  have y16 := Below.size A16.out
  have y17 := Below.size A17.out
  have y18 := Below.size A18.out
  have y19 := Below.size A19.out
  have y20 := Below.size A20.out
  refine ⟨_, [p1, p2, p3, p4, p5, p6, p7, p8, p9, p10, p11, p12, p13, p14, p15, p16, p17], rfl, rfl, parts_new _ 17 _ _ rfl (Below.size A20.out) (by omega), (A20.out).trans T20, ?_, ?_⟩
  · intro St m k hsm hk hup hc
    exact (All2.cons (WrOK.part (W1.out St m.kind hsm.nums.kind (fun w hw => by obtain ⟨sv, ov, iv, F, h1, h2⟩ := hc w hw; exact h1 0 _ rfl)) (by omega) (by omega) (Nat.le_refl _) T1) (All2.cons (WrOK.part (W2.out St m.src hsm.nums.src (fun w hw => by obtain ⟨sv, ov, iv, F, h1, h2⟩ := hc w hw; exact h1 1 _ rfl)) (by omega) (by omega) (Nat.le_refl _) T2) (All2.cons (WrOK.part (W3.out St m.dst hsm.nums.dst (fun w hw => by obtain ⟨sv, ov, iv, F, h1, h2⟩ := hc w hw; exact h1 2 _ rfl)) (by omega) (by omega) (Nat.le_refl _) T3) (All2.cons (WrOK.part (W4.out St m.view hsm.nums.view (fun w hw => by obtain ⟨sv, ov, iv, F, h1, h2⟩ := hc w hw; exact h1 3 _ rfl)) (by omega) (by omega) (Nat.le_refl _) T4) (All2.cons (WrOK.part (W5.out St m.last hsm.nums.last (fun w hw => by obtain ⟨sv, ov, iv, F, h1, h2⟩ := hc w hw; exact h1 4 _ rfl)) (by omega) (by omega) (Nat.le_refl _) T5) (All2.cons (WrOK.part (W6.out St m.num hsm.nums.num (fun w hw => by obtain ⟨sv, ov, iv, F, h1, h2⟩ := hc w hw; exact h1 5 _ rfl)) (by omega) (by omega) (Nat.le_refl _) T6) (All2.cons (WrOK.part (W7.out St m.commit hsm.nums.commit (fun w hw => by obtain ⟨sv, ov, iv, F, h1, h2⟩ := hc w hw; exact h1 6 _ rfl)) (by omega) (by omega) (Nat.le_refl _) T7) (All2.cons (WrOK.part (W8.out St m.nonce hsm.nums.nonce (fun w hw => by obtain ⟨sv, ov, iv, F, h1, h2⟩ := hc w hw; exact h1 7 _ rfl)) (by omega) (by omega) (Nat.le_refl _) T8) (All2.cons (WrOK.part (W9.out St m.request hsm.nums.request (fun w hw => by obtain ⟨sv, ov, iv, F, h1, h2⟩ := hc w hw; exact h1 8 _ rfl)) (by omega) (by omega) (Nat.le_refl _) T9) (All2.cons (WrOK.part (W10.out St m.lead (fun w hw => by obtain ⟨sv, ov, iv, F, h1, h2⟩ := hc w hw; exact h1 9 _ rfl)) (by omega) (by omega) (Nat.le_refl _) T10) (All2.cons (WrOK.part (W11.out St m.good (fun w hw => by obtain ⟨sv, ov, iv, F, h1, h2⟩ := hc w hw; exact h1 10 _ rfl)) (by omega) (by omega) (Nat.le_refl _) T11) (All2.cons (WrOK.part (W12.out St m.fenced (fun w hw => by obtain ⟨sv, ov, iv, F, h1, h2⟩ := hc w hw; exact h1 11 _ rfl)) (by omega) (by omega) (Nat.le_refl _) T12) (All2.cons (WrOK.part (W13.out St (opFs m.op) hup (V13.out.1 St m.op k hsm.op hk hup (fun w hw => (hc w hw).op)) (by have h1 := opF_room hsm.op; have h2 := k_small hk; rw [opFs_flat]; omega)) (by omega) (by omega) (Nat.le_refl _) T14) (All2.cons (WrOK.part (W14.out St (replyFs m) hup (V14.out.1 St m hsm.nums (fun w hw => by obtain ⟨sv, ov, iv, F, h1, h2⟩ := hc w hw; exact ⟨h1 22 _ rfl, h1 23 _ rfl, h1 24 _ rfl, h1 25 _ rfl⟩)) (by have := reply_room m; omega)) (by omega) (by omega) (Nat.le_refl _) T16) (All2.cons (WrOK.part (W15.out St (cmdFs m) hup (V15.out.1 St m hsm.nums (fun w hw => by obtain ⟨sv, ov, iv, F, h1, h2⟩ := hc w hw; exact ⟨h1 26 _ rfl, h1 27 _ rfl, h1 28 _ rfl, h1 29 _ rfl, h1 30 _ rfl, h1 31 _ rfl⟩)) (by have := cmd_room m; omega)) (by omega) (by omega) (Nat.le_refl _) T18) (All2.cons (WrOK.part (W16.out St m.ops k hsm.ops hk hsm.nops (fun w hw => by obtain ⟨sv, ov, iv, F, h1, h2⟩ := hc w hw; exact ⟨ov, F, h1 32 _ rfl, h2.2.1⟩)) (by omega) (by omega) (Nat.le_refl _) T19) (All2.cons (WrOK.part (W17.out St m.incs hsm.nums.incs (Nat.le_trans hsm.nincs hk) (fun w hw => by obtain ⟨sv, ov, iv, F, h1, h2⟩ := hc w hw; exact ⟨iv, F, h1 33 _ rfl, h2.2.2⟩)) (by omega) (by omega) (Nat.le_refl _) T20) All2.nil)))))))))))))))))
  · intro Inv hI hpl
    exact (All2.cons ⟨N1.out, RdOK.part (R1.out MsgD Inv msgSz _ hI hpl.kind) (by omega) (by omega) (Nat.le_refl _) T1⟩ (All2.cons ⟨N2.out, RdOK.part (R2.out MsgD Inv msgSz _ hI hpl.src) (by omega) (by omega) (Nat.le_refl _) T2⟩ (All2.cons ⟨N3.out, RdOK.part (R3.out MsgD Inv msgSz _ hI hpl.dst) (by omega) (by omega) (Nat.le_refl _) T3⟩ (All2.cons ⟨N4.out, RdOK.part (R4.out MsgD Inv msgSz _ hI hpl.view) (by omega) (by omega) (Nat.le_refl _) T4⟩ (All2.cons ⟨N5.out, RdOK.part (R5.out MsgD Inv msgSz _ hI hpl.last) (by omega) (by omega) (Nat.le_refl _) T5⟩ (All2.cons ⟨N6.out, RdOK.part (R6.out MsgD Inv msgSz _ hI hpl.num) (by omega) (by omega) (Nat.le_refl _) T6⟩ (All2.cons ⟨N7.out, RdOK.part (R7.out MsgD Inv msgSz _ hI hpl.commit) (by omega) (by omega) (Nat.le_refl _) T7⟩ (All2.cons ⟨N8.out, RdOK.part (R8.out MsgD Inv msgSz _ hI hpl.nonce) (by omega) (by omega) (Nat.le_refl _) T8⟩ (All2.cons ⟨N9.out, RdOK.part (R9.out MsgD Inv msgSz _ hI hpl.request) (by omega) (by omega) (Nat.le_refl _) T9⟩ (All2.cons ⟨N10.out, RdOK.part (R10.out MsgD Inv msgSz _ hI hpl.lead) (by omega) (by omega) (Nat.le_refl _) T10⟩ (All2.cons ⟨N11.out, RdOK.part (R11.out MsgD Inv msgSz _ hI hpl.good) (by omega) (by omega) (Nat.le_refl _) T11⟩ (All2.cons ⟨N12.out, RdOK.part (R12.out MsgD Inv msgSz _ hI hpl.fenced) (by omega) (by omega) (Nat.le_refl _) T12⟩ (All2.cons ⟨N13.out, RdOK.part (RdOK.same (R13.out MsgD Inv msgSz (msgOp.lift opPs) hI (V13.out.2 MsgD Inv msgSz msgOp hI hpl.op) (lift_nodup _ opPs_nums) (op_grow hpl.op)) (fun s f => Lens.rdB msgOp opPs s f.2.2.2)) (by omega) (by omega) (Nat.le_refl _) T14⟩ (All2.cons ⟨N14.out, RdOK.part (R14.out MsgD Inv msgSz replyPs hI (V14.out.2 Inv msgSz hI hpl.reply) replyPs_own reply_grow) (by omega) (by omega) (Nat.le_refl _) T16⟩ (All2.cons ⟨N15.out, RdOK.part (R15.out MsgD Inv msgSz cmdPs hI (V15.out.2 Inv msgSz hI hpl.cmd) cmdPs_own cmd_grow) (by omega) (by omega) (Nat.le_refl _) T18⟩ (All2.cons ⟨N16.out, RdOK.part (R16.out MsgD Inv msgSz _ hI hpl.ops) (by omega) (by omega) (Nat.le_refl _) T19⟩ (All2.cons ⟨N17.out, RdOK.part (R17.out MsgD Inv msgSz _ hI hpl.incs) (by omega) (by omega) (Nat.le_refl _) T20⟩ All2.nil)))))))))))))))))
end Go.Proofs.YtehiaeihkdfclaaGreatDoor
/- The walks over envelope's half and Sum: the sum by half bytes out of the table. -/
namespace Go.Proofs.YtehiaeihkdfclaaGreatDoor
open Go.RowKit

/-- The table's sixteen cells, as they lie. -/
def Tab (w : World) : Prop := 0 < w.heap.size ∧ ∀ i, i < 16 → w.cell? ⟨0, i, none⟩ = some (.int .u32 ((tab.getD i 0 : Nat) : Int))
theorem Tab.below {w w' : World} {B : Nat} (h : Tab w) (hb : Below B w w') (hB : 0 < B) : Tab w' :=
  ⟨Nat.lt_of_lt_of_le h.1 hb.size, fun i hi => by rw [hb.cell (p := ⟨0, i, none⟩) hB]; exact h.2 i hi⟩
theorem Tab.later {w w' : World} (h : Tab w) (hb : Below w.heap.size w w') : Tab w' := h.below hb h.1

theorem half_is {s h : Nat} (hh : h < 16) : st4 (s ^^^ h) = s / 16 ^^^ tab.getD (s % 16 ^^^ h) 0 := by
  have e1 : (s ^^^ h) / 16 = s / 16 := by
    have : h / 16 = 0 := by omega
    have e := Nat.shiftRight_xor_distrib (a := s) (b := h) (i := 4)
    simp only [Nat.shiftRight_eq_div_pow] at e
    rw [show (2 : Nat) ^ 4 = 16 by rfl, this, Nat.xor_zero] at e
    exact e
  have e2 : (s ^^^ h) % 16 = s % 16 ^^^ h := by
    have e := Nat.xor_mod_two_pow (a := s) (b := h) (n := 4)
    rw [show (2 : Nat) ^ 4 = 16 by rfl, Nat.mod_eq_of_lt hh] at e
    exact e
  rw [st4_half, e1, e2]

theorem half_any (s h : Nat) (w : World) (hs : s < 4294967296) (hh : h < 16) (hT : Tab w) :
    Calls Tryz.prog 96 #[.int .u32 s, .int .u8 h] w fun e w' => e = .returned (.int .u32 (st4 (s ^^^ h) : Nat)) ∧ w = w' := by
  obtain ⟨x, hx⟩ : ∃ x, x = s % 16 ^^^ h := ⟨_, rfl⟩
  have hx16 : x < 16 := by rw [hx]; exact Nat.xor_lt_two_pow (n := 4) (by omega) hh
  have e1 : bits .xor .u8 ((s : Int) % 16) (h : Int) = (x : Int) := by
    have := u8_xor_nat (s % 16) h (by omega) (by omega)
    rw [← hx] at this
    exact this
  obtain ⟨T, hTx⟩ : ∃ T, T = tab.getD x 0 := ⟨_, rfl⟩
  have e2 : bits .xor .u32 ((s : Int) / 16) (T : Int) = ((st4 (s ^^^ h) : Nat) : Int) := by
    rw [half_is hh, ← hx, ← hTx]
    exact u32_xor_nat (s / 16) T (by omega) (by rw [hTx]; exact tab_lt x hx16)
  have hc := hT.2 x hx16
  rw [← hTx] at hc
  have HTx := hide hTx
  clear hTx
  have Hx := hide hx
  have HT := hide hT
  clear hx hT
  go_enter Tryz.func96, Tryz.ntmps96
  go_wp2
  go_ret
  exact ⟨rfl, rfl⟩

/-- What the walk of Sum holds. -/
def SumAt (l : List Nat) (n k s : Nat) : Prop := k ≤ n ∧ l.length = n ∧ (∀ x ∈ l, x < 256) ∧ s = crc 4294967295 (l.take k)
theorem SumAt.le {l : List Nat} {n k s : Nat} (h : SumAt l n k s) : k ≤ n := h.1
theorem SumAt.small {l : List Nat} {n k s : Nat} (h : SumAt l n k s) : s < 4294967296 := by
  rw [h.2.2.2]
  exact crc_lt _ (by omega) fun x hx => h.2.2.1 x (List.mem_of_mem_take hx)
theorem SumAt.byte {l : List Nat} {n k s : Nat} (h : SumAt l n k s) (hk : k < n) : l.getD k 0 < 256 := by
  have hk' : k < l.length := by rw [h.2.1]; exact hk
  rw [show l.getD k 0 = l[k] by simp [List.getD, hk']]
  exact h.2.2.1 _ (List.getElem_mem hk')
theorem SumAt.next {l : List Nat} {n k s : Nat} (h : SumAt l n k s) (hk : k < n) : SumAt l n (k + 1) (st8 (s ^^^ l.getD k 0)) := by
  have hk' : k < l.length := by rw [h.2.1]; exact hk
  refine ⟨hk, h.2.1, h.2.2.1, ?_⟩
  rw [List.take_succ_eq_append_getElem hk', crc_snoc, ← h.2.2.2, show l.getD k 0 = l[k] by simp [List.getD, hk']]
theorem SumAt.all {l : List Nat} {n k s : Nat} (h : SumAt l n k s) (hk : ¬ k < n) : s = crc 4294967295 l := by
  rw [h.2.2.2, List.take_of_length_le (by have := h.1; have := h.2.1; omega)]

/-- Two halves are a byte. -/
theorem two_halves (s x : Nat) : st4 (st4 (s ^^^ x % 16) ^^^ x / 16) = st8 (s ^^^ x) := by
  have e : x = x % 16 ^^^ 16 * (x / 16) := by
    rw [Nat.xor_comm]
    exact split16 x
  unfold st8
  conv => rhs; rw [e, ← Nat.xor_assoc, st4_xor, st4_high]

set_option maxHeartbeats 200000 in
theorem sum_any (A : Option Addr) (n c B : Nat) (l : List Nat) (w : World) (hl : Holds w B A n l) (hn : n ≤ 1099511627000) (hT : Tab w) :
    Calls Tryz.prog 64 #[.slice A n c] w fun e w' => e = .returned (.int .u32 (sum l : Nat)) ∧ w = w' := by
  have S0 : SumAt l n 0 4294967295 := ⟨Nat.zero_le _, hl.1, hl.2.1, rfl⟩
  go_enter Tryz.func64, Tryz.ntmps64
  go_wp2
  go_loop [3, 8] (fun vs vk => ∃ k s : Nat, SumAt l n k s ∧ vk = .int .i64 k ∧ vs = .int .u32 s) (fun _ vk => n - (intOf vk).toNat)
  case atStart => exact ⟨0, 4294967295, S0, rfl, rfl⟩
  case round =>
    obtain ⟨k, s, hat, rfl, rfl⟩ := hrel
    have hk := hat.le
    have hs := hat.small
    have Hat := hide hat
    clear hat
    by_cases h : k < n
    · have hx := Hat.out.byte h
      obtain ⟨b, off, rfl, _, hcs⟩ := hl.2.2 (by omega)
      have hc := hcs k h
      clear hcs
      have hnext := Hat.out.next h
      have e8 := two_halves s (l.getD k 0)
      rw [← e8] at hnext
      have hs4 : st4 (s ^^^ l.getD k 0 % 16) < 4294967296 := st4_lt (Nat.xor_lt_two_pow (n := 32) hs (by omega))
      have k1 := fun w => half_any s (l.getD k 0 % 16) w hs (by omega)
      have k2 := fun w => half_any (st4 (s ^^^ l.getD k 0 % 16)) (l.getD k 0 / 16) w hs4 (by omega)
      generalize st4 (st4 (s ^^^ l.getD k 0 % 16) ^^^ l.getD k 0 / 16) = s8 at hnext k2
      generalize st4 (s ^^^ l.getD k 0 % 16) = s4 at hs4 k1 k2
      generalize l.getD k 0 = x at hx hc k1 k2
      have Hnext := hide hnext
      have ea : bits .and .u8 (x : Int) 15 = ((x % 16 : Nat) : Int) := (u8_and15 (x := (x : Int)) (by omega) (by omega)).trans (by omega)
      have K1 := hide k1
      have K2 := hide k2
      clear hnext e8 k1 k2
      go_wp2_with (fail)
      refine (K1.out _ hT).mono ?_
      rintro e w1 ⟨rfl, rfl⟩
      go_wp2_with (fail)
      refine (K2.out _ hT).mono ?_
      rintro e w1 ⟨rfl, rfl⟩
      go_wp2
      go_round
      case rel => exact ⟨k + 1, _, Hnext.out, by go_num, rfl⟩
      case measure => simp [intOf]; omega
    · have hsum : sum l = s ^^^ 4294967295 := by rw [Hat.out.all h]; rfl
      have e1 : bits .xor .u32 IntKind.u32.max (s : Int) = ((sum l : Nat) : Int) := by
        rw [hsum, Nat.xor_comm]
        exact u32_xor_nat 4294967295 s (by omega) hs
      go_wp2
      go_ret
      exact ⟨rfl, rfl⟩
end Go.Proofs.YtehiaeihkdfclaaGreatDoor
/- The walks over envelope's putSum, startsCount, size, bounds. -/
namespace Go.Proofs.YtehiaeihkdfclaaGreatDoor
open Go.RowKit

def fourF : Nat → Nat → List Nat
  | 0, _ => []
  | f + 1, s => s % 256 :: fourF f (s / 256)
/-- What the walk of putSum holds. -/
def FourAt (S i s : Nat) (k : List Nat) : Prop := i ≤ 4 ∧ s < 4294967296 ∧ four S = k ++ fourF (4 - i) s ∧ k.length = i
theorem fourAt_start {S : Nat} (h : S < 4294967296) : FourAt S 0 S [] := by
  refine ⟨by omega, h, ?_, rfl⟩
  simp [four, fourF, Nat.div_div_eq_div_mul]
theorem FourAt.small {S i s : Nat} {k : List Nat} (h : FourAt S i s k) : i ≤ 4 ∧ s < 4294967296 ∧ k.length = i := ⟨h.1, h.2.1, h.2.2.2⟩
theorem FourAt.next {S i s : Nat} {k : List Nat} (h : FourAt S i s k) (hi : i < 4) : FourAt S (i + 1) (s / 256) (k ++ [s % 256]) := by
  refine ⟨by omega, by have := h.2.1; omega, ?_, by simp [h.2.2.2]⟩
  rw [h.2.2.1, show 4 - i = (4 - (i + 1)) + 1 by omega]
  simp [fourF]
theorem FourAt.all {S i s : Nat} {k : List Nat} (h : FourAt S i s k) (hi : ¬ i < 4) : four S = k := by
  rw [h.2.2.1, show 4 - i = 0 by omega]
  simp [fourF]

set_option maxHeartbeats 400000 in
set_option maxRecDepth 100000 in
theorem putsum_any (base n S : Nat) (bv0 : Value) (l : List Nat) (w : World) (hS : S < 4294967296) (hn : n ≤ 1099511627776) (hbase : base ≤ w.heap.size)
    (ho : w.ownsRow base 5 1 bv0 n (bvs l)) :
    Calls Tryz.prog 63 #[bv0, .int .u32 S] w fun e w' => ∃ v', e = .returned v' ∧ w'.ownsRow base 5 1 v' (n + 4) (bvs (l ++ four S)) ∧ Went w bv0.ownBlock w' v'.ownBlock := by
  have HS := hide hS
  clear hS
  obtain ⟨i0, hi, hz0, hz1, hz2⟩ := info_parts Tryz.infoU8
  go_enter Tryz.func63, Tryz.ntmps63
  go_wp2
  go_loopw [0, 1, 5] (fun b vv vi wr => ∃ (i s : Nat) (k : List Nat), FourAt S i s k ∧ vv = .int .u32 s ∧ vi = .int .i64 i ∧ wr.ownsRow base 5 1 b (n + i) (bvs (l ++ k)) ∧ Went w bv0.ownBlock wr b.ownBlock) (fun _ _ vi _ => 4 - (intOf vi).toNat)
  case atStart => exact ⟨0, S, [], fourAt_start HS.out, rfl, rfl, by simpa using ho, Went.refl _ _⟩
  case round =>
    obtain ⟨i, s, k, hat, rfl, rfl, hown, hbel⟩ := hrel
    obtain ⟨hi4, hs, hkl⟩ := hat.small
    have hsz := hbel.size
    have Hat := hide hat
    clear hat
    by_cases h : i < 4
    · have hnext := Hat.out.next h
      obtain ⟨g, hg⟩ : ∃ g, g = s % 256 := ⟨_, rfl⟩
      have hgs : g < 256 := by omega
      have hgi : (s : Int) % 256 = (g : Int) := by omega
      rw [← hg] at hnext
      have Hnext := hide hnext
      have Hg := hide hg
      clear hnext hg
      go_wp2_with (at_builtin; refine wpList_append_own_at _ rfl (.tmp 7) (.tmp 10) 38 rfl base 5 i0 _ 1 1 Tryz.underlying38 hi hz0 hz1 hz2 rfl (by omega) _ (n + i) (bvs (l ++ k)) rfl (hown.alloc _) ⟨wr.heap.size, 0, none⟩ 1 1 (bvs [g]) rfl rfl (cell_one_new _ _ _) (bvs_cell _) (by simp only [maxLen]; omega) (by omega) (by simp; omega) ?_; intro v1 w1 hown1 hg1 _ hat1)
      go_roundw
      case rel =>
        refine ⟨i + 1, s / 256, k ++ [g], Hnext.out, by go_num, by go_num, ?_, (hbel.alloc _).trans (.of_at hg1 hat1)⟩
        rw [← List.append_assoc, bvs_append]
        exact hown1
      case measure => simp [intOf]; omega
    · have e4 := Hat.out.all h
      have : i = 4 := by omega
      subst this
      go_wp2
      go_ret
      rw [e4]
      exact ⟨_, rfl, hown, hbel⟩

def HighAt (l : List Nat) (n k : Nat) : Prop := k ≤ n ∧ l.length = n ∧ n ≤ 9 ∧ (∀ x ∈ l.take k, 128 ≤ x)
theorem HighAt.next {l : List Nat} {n k : Nat} (h : HighAt l n k) (hk : k < n) (hx : 128 ≤ l.getD k 0) : HighAt l n (k + 1) := by
  have hk' : k < l.length := by rw [h.2.1]; exact hk
  refine ⟨hk, h.2.1, h.2.2.1, fun x hm => ?_⟩
  rw [List.take_succ_eq_append_getElem hk', List.mem_append] at hm
  rcases hm with hm | hm
  · exact h.2.2.2 x hm
  · simp only [List.mem_singleton] at hm
    rw [hm]
    simpa [List.getD, hk'] using hx
theorem HighAt.no {l : List Nat} {n k : Nat} (h : HighAt l n k) (hk : k < n) (hx : l.getD k 0 < 128) : false = high l := by
  have hk' : k < l.length := by rw [h.2.1]; exact hk
  symm
  unfold high
  rw [Bool.and_eq_false_iff]
  right
  rw [List.all_eq_false]
  exact ⟨l[k], List.getElem_mem hk', by simpa [List.getD, hk'] using hx⟩
theorem HighAt.all {l : List Nat} {n k : Nat} (h : HighAt l n k) (hk : ¬ k < n) : true = high l := by
  have e : l.take k = l := List.take_of_length_le (by have := h.1; have := h.2.1; omega)
  symm
  unfold high
  rw [Bool.and_eq_true]
  refine ⟨by have := h.2.1; have := h.2.2.1; simp; omega, ?_⟩
  rw [List.all_eq_true]
  intro x hx
  rw [← e] at hx
  simpa using h.2.2.2 x hx
theorem high_long {l : List Nat} {n : Nat} (h : l.length = n) (hn : 9 < n) : false = high l := by
  unfold high
  simp
  intro h2
  omega

set_option maxRecDepth 100000 in
theorem starts_any (A : Option Addr) (n c B : Nat) (l : List Nat) (w : World) (hl : Holds w B A n l) (hn : n ≤ 1099511627000) :
    Calls Tryz.prog 128 #[.slice A n c] w fun e w' => e = .returned (.bool (high l)) ∧ w = w' := by
  have Hl := hide hl
  clear hl
  by_cases h9 : 9 < n
  · go_enter Tryz.func128, Tryz.ntmps128
    go_wp2
    go_ret
    exact ⟨ret_bool (high_long Hl.out.1 h9), rfl⟩
  · have G0 := hide (show HighAt l n 0 from ⟨Nat.zero_le _, Hl.out.1, by omega, by simp⟩)
    go_enter Tryz.func128, Tryz.ntmps128
    go_wp2
    go_loop [10] (fun vk => ∃ k : Nat, Hid (HighAt l n k) ∧ vk = .int .i64 k) (fun vk => n - (intOf vk).toNat)
    case atStart => exact ⟨0, G0, rfl⟩
    case round =>
      obtain ⟨k, hat, rfl⟩ := hrel
      have hk := hat.out.1
      by_cases h : k < n
      · obtain ⟨b, off, rfl, _, hcs⟩ := Hl.out.2.2 (by omega)
        have hc := hcs k h
        have hb := Hl.out.byte h
        clear hcs
        by_cases hx : l.getD k 0 < 128
        · have hno := hide (hat.out.no h hx)
          generalize l.getD k 0 = x at hc hb hx
          go_wp2
          go_ret
          exact ⟨ret_bool hno.out, rfl⟩
        · have hnext := hide (hat.out.next h (by omega))
          generalize l.getD k 0 = x at hc hb hx
          go_wp2
          go_round
          case rel => exact ⟨k + 1, hnext, by go_num⟩
          case measure => simp [intOf]; omega
      · have hall := hide (hat.out.all h)
        go_wp2
        go_ret
        exact ⟨ret_bool hall.out, rfl⟩

theorem cnt_1 {l : List Nat} {v k e : Nat} (h : num l 0 0 = (v, k, e)) (hk : k = 0) (hh : high l = true) : cnt l = (0, 0, 3) := by
  unfold cnt
  rw [h, if_pos ⟨hk, hh⟩]
theorem cnt_2 {l : List Nat} {v k e : Nat} (h : num l 0 0 = (v, k, e)) (hk : k = 0) (hh : high l = false) : cnt l = (0, 0, 4) := by
  unfold cnt
  rw [h, if_neg (by simp [hh]), if_pos (Or.inl hk)]
theorem cnt_3 {l : List Nat} {v k e : Nat} (h : num l 0 0 = (v, k, e)) (hk : ¬ k = 0) (hv : 65536 < v) : cnt l = (0, 0, 4) := by
  unfold cnt
  rw [h, if_neg (by simp [hk]), if_pos (Or.inr hv)]
theorem cnt_4 {l : List Nat} {v k e : Nat} (h : num l 0 0 = (v, k, e)) (hk : ¬ k = 0) (hv : ¬ 65536 < v) : cnt l = (v, k, 0) := by
  unfold cnt
  rw [h, if_neg (by simp [hk]), if_neg (by simp [hk]; omega)]

theorem getnum_is (A : Option Addr) (n c B v k e : Nat) (l : List Nat) (w : World) (hl : Holds w B A n l) (hn : n ≤ 1099511627000) (h : num l 0 0 = (v, k, e)) :
    Calls Tryz.prog 127 #[.slice A n c] w fun e w' => e = .returned (.tuple #[.int .u64 v, .int .i64 k]) ∧ w = w' :=
  (getuint_any A n c B l w hl hn).mono fun e w' ⟨h1, h2⟩ => by rw [h] at h1; exact ⟨h1, h2⟩

theorem size_any (A : Option Addr) (n c B : Nat) (l : List Nat) (w : World) (hl : Holds w B A n l) (hn : n ≤ 1099511627000) :
    Calls Tryz.prog 119 #[.slice A n c] w fun e w' => e = .returned (.tuple #[.int .i64 (cnt l).1, .int .i64 (cnt l).2.1, .int .i64 (cnt l).2.2]) ∧ w = w' := by
  obtain ⟨v, k, er, hnum⟩ : ∃ v k er, num l 0 0 = (v, k, er) := ⟨_, _, _, rfl⟩
  have hkb : k ≤ 1099511627000 := by
    have := (num_bound l 0 0).1
    rw [hnum] at this
    have := hl.1
    simp only at *
    omega
  have hst := fun w (hl : Holds w B A n l) => starts_any A n c B l w hl hn
  have Hl := hide hl
  have Hst := hide hst
  clear hl hst
  by_cases hk : k = 0
  · cases hh : high l with
    | true =>
      have hc := cnt_1 hnum hk hh
      rw [hc]
      have Hc := hide hc
      rw [hh] at Hst
      subst hk
      go_enter Tryz.func119, Tryz.ntmps119
      go_wp2_with (fail)
      refine (getnum_is A n c B v 0 er l _ Hl.out hn hnum).mono ?_
      rintro e w1 ⟨rfl, rfl⟩
      go_wp2_with (fail)
      refine (Hst.out _ Hl.out).mono ?_
      rintro e w1 ⟨rfl, rfl⟩
      go_wp2
      go_ret3
      exact ⟨rfl, rfl⟩
    | false =>
      have hc := cnt_2 hnum hk hh
      rw [hc]
      have Hc := hide hc
      rw [hh] at Hst
      subst hk
      go_enter Tryz.func119, Tryz.ntmps119
      go_wp2_with (fail)
      refine (getnum_is A n c B v 0 er l _ Hl.out hn hnum).mono ?_
      rintro e w1 ⟨rfl, rfl⟩
      go_wp2_with (fail)
      refine (Hst.out _ Hl.out).mono ?_
      rintro e w1 ⟨rfl, rfl⟩
      go_wp2
      go_ret3
      exact ⟨rfl, rfl⟩
  · have hk' : ((k : Int) == 0) = false := by simp; omega
    by_cases hv : 65536 < v
    · have hc := cnt_3 hnum hk hv
      rw [hc]
      have Hc := hide hc
      go_enter Tryz.func119, Tryz.ntmps119
      go_wp2_with (fail)
      refine (getnum_is A n c B v k er l _ Hl.out hn hnum).mono ?_
      rintro e w1 ⟨rfl, rfl⟩
      go_wp2
      go_ret3
      exact ⟨rfl, rfl⟩
    · have hc := cnt_4 hnum hk hv
      rw [hc]
      have Hc := hide hc
      go_enter Tryz.func119, Tryz.ntmps119
      go_wp2_with (fail)
      refine (getnum_is A n c B v k er l _ Hl.out hn hnum).mono ?_
      rintro e w1 ⟨rfl, rfl⟩
      go_wp2
      go_ret3
      exact ⟨rfl, rfl⟩

theorem bnd_1 {l : List Nat} (h : l.length = 0) : bnd l = (0, 0, 3) := by unfold bnd; rw [if_pos h]
theorem bnd_2 {l : List Nat} (h : ¬ l.length = 0) (h2 : l.getD 0 0 ≠ 3) : bnd l = (0, 0, 5) := by unfold bnd; rw [if_neg h, if_pos h2]
theorem bnd_3 {l : List Nat} {v k e : Nat} (h : ¬ l.length = 0) (h2 : l.getD 0 0 = 3) (hc : cnt (l.drop 1) = (v, k, e)) (he : e ≠ 0) : bnd l = (0, 0, e) := by
  unfold bnd; rw [hc, if_neg h, if_neg (fun hh => hh h2), if_pos he]
theorem bnd_4 {l : List Nat} {v k e : Nat} (h : ¬ l.length = 0) (h2 : l.getD 0 0 = 3) (hc : cnt (l.drop 1) = (v, k, e)) (he : ¬ e ≠ 0) (hs : l.length < 1 + k + (v + 4)) : bnd l = (0, 0, 3) := by
  unfold bnd; rw [hc, if_neg h, if_neg (fun hh => hh h2), if_neg he, if_pos hs]
theorem bnd_5 {l : List Nat} {v k e : Nat} (h : ¬ l.length = 0) (h2 : l.getD 0 0 = 3) (hc : cnt (l.drop 1) = (v, k, e)) (he : ¬ e ≠ 0) (hs : ¬ l.length < 1 + k + (v + 4)) : bnd l = (1 + k, 1 + k + v, 0) := by
  unfold bnd; rw [hc, if_neg h, if_neg (fun hh => hh h2), if_neg he, if_neg hs]

theorem size_is (A : Option Addr) (n c B v k e : Nat) (l : List Nat) (w : World) (hl : Holds w B A n l) (hn : n ≤ 1099511627000) (h : cnt l = (v, k, e)) :
    Calls Tryz.prog 119 #[.slice A n c] w fun e1 w' => e1 = .returned (.tuple #[.int .i64 v, .int .i64 k, .int .i64 e]) ∧ w = w' :=
  (size_any A n c B l w hl hn).mono fun e w' ⟨h1, h2⟩ => by rw [h] at h1; exact ⟨h1, h2⟩

set_option maxHeartbeats 400000 in
set_option maxRecDepth 100000 in
theorem bounds_any (A : Option Addr) (n c B : Nat) (l : List Nat) (w : World) (hl : Holds w B A n l) (hn : n ≤ 1099511627000) (hc : n ≤ c) :
    Calls Tryz.prog 84 #[.slice A n c] w fun e w' => e = .returned (.tuple #[.int .i64 (bnd l).1, .int .i64 (bnd l).2.1, .int .i64 (bnd l).2.2]) ∧ w = w' := by
  have Hl := hide hl
  have hlen := hl.1
  clear hl
  by_cases h0 : n = 0
  · have hb := bnd_1 (l := l) (by omega)
    rw [hb]
    have Hb := hide hb
    subst h0
    clear hlen
    go_enter Tryz.func84, Tryz.ntmps84
    go_wp2
    go_ret3
    exact ⟨rfl, rfl⟩
  · obtain ⟨b, off, rfl, _, hcs⟩ := Hl.out.2.2 (by omega)
    have hcell := hcs 0 (by omega)
    rw [Nat.add_zero] at hcell
    have hbyte := Hl.out.byte (show 0 < n by omega)
    clear hcs
    have hn0 : ((n : Int) == 0) = false := by simp; omega
    by_cases h3 : l.getD 0 0 = 3
    · rw [h3] at hcell
      obtain ⟨v, k, er, hcnt⟩ : ∃ v k er, cnt (l.drop 1) = (v, k, er) := ⟨_, _, _, rfl⟩
      have hfit := cnt_fits (l.drop 1)
      rw [hcnt] at hfit
      simp only [List.length_drop] at hfit
      obtain ⟨A', hA', hcut⟩ := cut_from (some ⟨b, off, none⟩) n c 1 (by omega)
      simp only [show ((1 : Nat) : Int) = 1 from rfl] at hcut
      have hd := Hl.out.drop (k := 1) (cap := c) (by omega) hc A' hA'
      have hsz := hide (size_is A' (n - 1) (c - 1) B v k er (l.drop 1) w hd (by omega) hcnt)
      have hk1 : k ≤ 1099511627000 := by omega
      have hv1 : v ≤ 65536 := hfit.1
      have he1 : er ≤ 4 := hfit.2.2
      have Hcnt := hide hcnt
      have HA' := hide hA'
      clear hcnt hA' hd hbyte
      by_cases he : er ≠ 0
      · have hb := bnd_3 (by omega) h3 Hcnt.out he
        rw [hb]
        have Hb := hide hb
        have H3 := hide h3
        have Hfit := hide hfit
        have he2 : ((er : Int) == 0) = false := by simp; omega
        clear hb h3 hfit
        go_enter Tryz.func84, Tryz.ntmps84
        go_wp2_with (fail)
        refine hsz.out.mono ?_
        rintro e w1 ⟨rfl, rfl⟩
        go_wp2
        go_ret3
        exact ⟨rfl, rfl⟩
      · have he0 : er = 0 := by omega
        by_cases hs : l.length < 1 + k + (v + 4)
        · have hb := bnd_4 (by omega) h3 Hcnt.out he hs
          rw [hb]
          have Hb := hide hb
          have H3 := hide h3
          subst he0
          have hs' : n < 1 + k + (v + 4) := by omega
          have hk2 : k ≤ n - 1 := by omega
          have Hfit := hide hfit
          have Hs := hide hs
          clear hb h3 hfit hs
          go_enter Tryz.func84, Tryz.ntmps84
          go_wp2_with (fail)
          refine hsz.out.mono ?_
          rintro e w1 ⟨rfl, rfl⟩
          go_wp2
          go_ret3
          exact ⟨rfl, rfl⟩
        · have hb := bnd_5 (by omega) h3 Hcnt.out he hs
          rw [hb]
          have Hb := hide hb
          have H3 := hide h3
          subst he0
          have hs' : ¬ n < 1 + k + (v + 4) := by omega
          have Hfit := hide hfit
          have Hs := hide hs
          clear hb h3 hfit hs
          go_enter Tryz.func84, Tryz.ntmps84
          go_wp2_with (fail)
          refine hsz.out.mono ?_
          rintro e w1 ⟨rfl, rfl⟩
          go_wp2
          go_ret3
          exact ⟨ret3 (by omega) (by omega) rfl, rfl⟩
    · have hb := bnd_2 (by omega) h3
      rw [hb]
      have Hb := hide hb
      have h3' : (((l.getD 0 0 : Nat) : Int) == 3) = false := by simp only [beq_eq_false_iff_ne]; omega
      have H3 := hide h3
      clear hb h3
      generalize l.getD 0 0 = x at hcell hbyte h3'
      go_enter Tryz.func84, Tryz.ntmps84
      go_wp2
      go_ret3
      exact ⟨rfl, rfl⟩
end Go.Proofs.YtehiaeihkdfclaaGreatDoor
/- The walk over field.Uint: the bytes that came in, and the groups of the number behind them, in new memory. -/
namespace Go.Proofs.YtehiaeihkdfclaaGreatDoor
open Go.RowKit

set_option maxHeartbeats 400000 in
theorem uint_any (A : Option Addr) (n c V : Nat) (l : List Nat) (B : Nat) (w : World) (hV : V < 18446744073709551616) (hn : n ≤ 1099511627000) (hl : Holds w B A n l) (hB : B ≤ w.heap.size) :
    Calls Tryz.prog 62 #[.slice A n c, .int .u64 V] w fun e w' => ∃ v', e = .returned v' ∧ w'.ownsRow w.heap.size 5 1 v' (n + (enc V).length) (bvs (l ++ enc V)) ∧ Below w.heap.size w w' := by
  obtain ⟨i0, hi, hz0, hz1, hz2⟩ := info_parts Tryz.infoU8
  have HV := hide hV
  clear hV
  go_enter Tryz.func62, Tryz.ntmps62
  go_wp2_with (first
    | (at_make; refine wpList_make_own _ rfl _ _ 38 rfl w.heap.size 5 i0 (.int .u8 0) 1 Tryz.underlying38 hi hz0 hz1 _ _ _ (n + 10) rfl rfl (by omega) (by rw [hz2]; omega) (by simp only [maxLen]; omega) (Nat.le_refl _) ?_; intro w1 hown1 hg1)
    | (at_builtin; refine wpList_append_bytes _ rfl (.tmp 11) (.tmp 12) 38 rfl w.heap.size 5 i0 (.int .u8 0) Tryz.underlying38 hi hz0 hz1 hz2 rfl _ 0 [] rfl hown1 B A n c l rfl (hl.below ((Below.refl _ _).grown hg1 hB (by simp))) (by omega) hg1.size ?_; intro v2 w2 hown2 hg2)
    | (go_at_call 95; refine (put_any w.heap.size (0 + n) V _ l _ HV.out (by omega) (Nat.le_trans hg1.size hg2.size) hown2).mono ?_; rintro e w3 ⟨v3, rfl, hown3, hg3⟩))
  go_ret
  have b1 : Below w.heap.size w w1 := (Below.refl _ _).grown hg1 (Nat.le_refl _) (by simp)
  have b2 := hg2.below hown1 hg1.size
  have b3 := hg3.below hown2 (Nat.le_trans hg1.size hg2.size)
  exact ⟨v3, rfl, by simpa using hown3, (b1.trans b2).trans b3⟩
theorem uint_new (A : Option Addr) (n c V : Nat) (l : List Nat) (B : Nat) (w : World) (hV : V < 18446744073709551616) (hn : n ≤ 1099511627000) (hl : Holds w B A n l) (hB : B ≤ w.heap.size) :
    Calls Tryz.prog 62 #[.slice A n c, .int .u64 V] w (NewBytes w (l ++ enc V)) :=
  (uint_any A n c V l B w hV hn hl hB).mono fun e w' ⟨v', he, ho, hb⟩ => by
    subst he
    exact newBytes_of ho (fun x hx => by
      rcases List.mem_append.1 hx with h | h
      · exact hl.2.1 x h
      · exact enc_small V x h) hb
end Go.Proofs.YtehiaeihkdfclaaGreatDoor
/- Rows of the call's own, carried over; the cells that were there. -/
namespace Go.Proofs.YtehiaeihkdfclaaGreatDoor
open Go.RowKit

/-- A row of bytes of the call's own: where it lies, its cells, a cell that is written. -/
theorem own_at {w : World} {base e n : Nat} {v : Value} {l : List Nat} (h : w.ownsRow base e 1 v n (bvs l)) (hn : 0 < n) : ∃ g c, v = .slice (some ⟨g, 0, none⟩) n c ∧ base ≤ g ∧ g < w.heap.size ∧ n ≤ c ∧ c ≤ maxLen := by
  rcases h.2 with ⟨_, h0⟩ | ⟨g, cap, cur, hv, hb, hg, hnc, hm, _⟩
  · omega
  · refine ⟨g, cap, hv, hb, ?_, hnc, hm⟩
    rcases Nat.lt_or_ge g w.heap.size with hlt | hge
    · exact hlt
    · rw [Array.getElem?_eq_none hge] at hg
      cases hg
theorem own_cell {w : World} {base e g n c : Nat} {l : List Nat} (h : w.ownsRow base e 1 (.slice (some ⟨g, 0, none⟩) n c) n (bvs l)) {i : Nat} (hi : i < n) : w.cell? ⟨g, i, none⟩ = some (.int .u8 ((l.getD i 0 : Nat) : Int)) := by
  have hl : l.length = n := by have := h.1; rw [bvs_len] at this; omega
  have h1 := h.cellAt i (by omega)
  rw [h1, bvs_get (by omega)]
theorem own_set {w : World} {base e g n c : Nat} {l : List Nat} (h : w.ownsRow base e 1 (.slice (some ⟨g, 0, none⟩) n c) n (bvs l)) (i x : Nat) :
    (w.setCell ⟨g, i, none⟩ (.int .u8 (x : Int))).ownsRow base e 1 (.slice (some ⟨g, 0, none⟩) n c) n (bvs (l.set i x)) ∧ w.grownBy (w.setCell ⟨g, i, none⟩ (.int .u8 (x : Int))) (some g) := by
  have h1 := h.stored i (.int .u8 (x : Int))
  have e1 : bvs (l.set i x) = (bvs l).set i (.int .u8 (x : Int)) := by simp [bvs, bv, List.map_set]
  rw [e1]
  exact h1
end Go.Proofs.YtehiaeihkdfclaaGreatDoor
/- The walks over envelope's Seal, bytes.Equal; of droverref02: Sum, four, Seal. -/
namespace Go.Proofs.YtehiaeihkdfclaaGreatDoor
open Go.RowKit

theorem byte_holds (w : World) (x : Nat) (hx : x < 256) (t : TypeId) : Holds (w.alloc (.cells #[.int .u8 (x : Int)] t)) (w.heap.size + 1) (some ⟨w.heap.size, 0, none⟩) 1 [x] := by
  refine ⟨rfl, by simpa using hx, fun _ => ⟨w.heap.size, 0, rfl, by omega, fun i hi => ?_⟩⟩
  obtain rfl : i = 0 := by omega
  simp
theorem newBytes_nil (w : World) : NewBytes w [] (.returned (.slice none 0 0)) w :=
  ⟨none, 0, 0, rfl, World.ownsRow_nil _ _ _ _, Holds.nil_ _ _, Nat.le_refl _, Below.refl _ _⟩

set_option maxHeartbeats 1000000 in
set_option maxRecDepth 100000 in
theorem seal_any (A : Option Addr) (n c B : Nat) (l : List Nat) (w : World) (hl : Holds w B A n l) (hB : B ≤ w.heap.size) (hn : n ≤ 9223372036854775807) (hT : Tab w) :
    Calls Tryz.prog 30 #[.slice A n c] w (NewBytes w (sealed l)) := by
  have hlen := hl.1
  have hsm := hide (sealed_small hl.2.1)
  have Hl := hide hl
  have HT := hide hT
  clear hl hT
  by_cases hbig : 65536 < n
  · have e : sealed l = [] := by unfold sealed; rw [if_pos (by omega)]
    rw [e]
    have He := hide e
    clear e hlen
    go_enter Tryz.func30, Tryz.ntmps30
    go_wp2
    go_ret
    exact newBytes_nil w
  · have hp : sealP l = [3] ++ enc n ++ l := by simp [sealP, hlen]
    have e : sealed l = ([3] ++ enc n ++ l) ++ four (sum ([3] ++ enc n ++ l)) := by
      unfold sealed
      rw [if_neg (by omega), hp]
    have hsm2 := hide (sealP_small Hl.out.2.1)
    rw [hp] at hsm2
    obtain ⟨R, hR⟩ : ∃ R, R = sealed l := ⟨_, rfl⟩
    obtain ⟨q, hq⟩ : ∃ q, q = sum ([3] ++ enc n ++ l) := ⟨_, rfl⟩
    have hq32 : q < 4294967296 := by rw [hq]; exact sum_lt hsm2.out
    rw [← hR] at hsm ⊢
    rw [← hR, ← hq] at e
    have He := hide e
    have Hq := hide hq
    have Hlen := hide hlen
    have hel := (enc_len n).2
    clear e hlen hp hR hq
    obtain ⟨i0, hi, hz0, hz1, hz2⟩ := info_parts Tryz.infoU8
    go_enter Tryz.func30, Tryz.ntmps30
    go_wp2_with (fail)
    refine (uint_any (some ⟨w.heap.size, 0, none⟩) 1 1 n [3] (w.heap.size + 1) _ (by omega) (by omega) (byte_holds w 3 (by omega) _) (by simp)).mono ?_
    rintro e w1 ⟨v1, rfl, o1, b1⟩
    have ba : Below w.heap.size w (w.alloc (.cells #[.int .u8 ((3 : Nat) : Int)] 5)) := (Below.refl _ _).alloc (Nat.le_refl _) _
    have L1 := hide (ba.trans (b1.mono (by simp)))
    have S1 : w.heap.size + 1 ≤ w1.heap.size := by simpa using b1.size
    have o1' := own_base (base' := w.heap.size) o1 (by simp)
    clear o1 b1 ba
    go_wp2_with (at_builtin; refine wpList_append_bytes _ rfl (.tmp 12) (.tmp 13) 38 rfl w.heap.size 5 i0 (.int .u8 0) Tryz.underlying38 hi hz0 hz1 hz2 rfl _ (1 + (enc n).length) ([3] ++ enc n |> bvs) rfl o1' B A n c l rfl (Hl.out.below (L1.out.mono hB)) (by omega) (by omega) ?_; intro v2 w2 o2 g2)
    have o2' : w2.ownsRow w.heap.size 5 1 v2 (1 + (enc n).length + n) (bvs ([3] ++ enc n ++ l)) := by
      rw [bvs_append]
      exact o2
    have b2 := g2.below o1' (by omega)
    have L2 := hide (L1.out.trans b2)
    have S2 := L2.out.size
    obtain ⟨A2, c2, rfl, hc2, _, h2⟩ := Holds.of_own o2' hsm2.out
    have H2 := hide h2
    have O2 := hide o2'
    clear o1' o2 g2 b2 o2' h2
    refine (sum_any A2 _ c2 _ _ w2 H2.out (by omega) (HT.out.later L2.out)).mono ?_
    rintro e w3 ⟨rfl, rfl⟩
    rw [← Hq.out]
    go_wp2_with (fail)
    refine (putsum_any w.heap.size _ q _ _ w2 hq32 (by omega) S2 O2.out).mono ?_
    rintro e w3 ⟨v3, rfl, o3, g3⟩
    have L3 := hide (L2.out.trans (g3.below O2.out S2))
    have O3 := hide o3
    clear o3 g3
    go_wp2
    go_ret
    have o4 := O3.out
    rw [← He.out] at o4
    exact newBytes_of o4 hsm.out L3.out

theorem equal_any (A A2 : Option Addr) (n c m c2 B B2 : Nat) (l l2 : List Nat) (w : World) (hl : Holds w B A n l) (h2 : Holds w B2 A2 m l2) :
    Calls Tryz.prog 45 #[.slice A n c, .slice A2 m c2] w fun e w' => e = .returned (.bool (decide (l = l2))) ∧ w = w' := by
  have d1 := run_str w B A n c l hl
  have d2 := run_str w B2 A2 m c2 l2 h2
  have hs1 := hide hl.2.1
  have hs2 := hide h2.2.1
  clear hl h2
  by_cases h : l = l2
  · subst h
    have hb := str_beq l
    rw [decide_eq_true rfl]
    go_enter Tryz.func45, Tryz.ntmps45
    go_wp2
    go_ret
    exact ⟨rfl, rfl⟩
  · have hb := str_bne hs1.out hs2.out h
    rw [decide_eq_false h]
    have H := hide h
    clear h
    go_enter Tryz.func45, Tryz.ntmps45
    go_wp2
    go_ret
    exact ⟨rfl, rfl⟩
end Go.Proofs.YtehiaeihkdfclaaGreatDoor
/- The walks over OpBytes, DefBytes, Bytes, Good: what is written. -/
namespace Go.Proofs.YtehiaeihkdfclaaGreatDoor
open Go.RowKit

theorem NewBytes.of {w w1 w2 : World} {l : List Nat} {e : Ending} (h : NewBytes w1 l e w2) (hl : Later w w1) : NewBytes w l e w2 := by
  obtain ⟨A, n, c, he, ho, hh, hc, hb⟩ := h
  exact ⟨A, n, c, he, own_base ho (Below.size hl), hh, hc, hl.trans hb⟩
/-- A definition, an operation in a block of its own. -/
def DefBox (w0 : Nat) (F : Nat → Prop) (name : ByteArray) (l : List StepD) (v : Value) (w : World) : Prop := w0 < w.heap.size ∧ w.heap[w0]? = some (.cells #[.string name, v] 24 (0, 0)) ∧ StepsAt F w v l
theorem DefBox.later {w0 : Nat} {F : Nat → Prop} {name : ByteArray} {l : List StepD} {v : Value} {w w' : World} (h : DefBox w0 F name l v w) (hl : Later w w') : DefBox w0 F name l v w' :=
  ⟨by have := Below.size hl; have := h.1; omega, (Below.block hl _ h.1).trans h.2.1, h.2.2.kept (Kept.of_below hl F)⟩
set_option maxHeartbeats 2000000 in
set_option maxRecDepth 100000 in
theorem defbytes_any {F : Nat → Prop} {name : ByteArray} {l : List StepD} {sA : Option Addr} {n sc k : Nat} {w : World} (hsm : DefD.sm k ⟨name, l⟩) (hk : k ≤ 5000) (h : StepsAt F w (.slice sA n sc) l) :
    Calls Tryz.prog 15 #[.agg #[.string name, .slice sA n sc]] w (NewBytes w (defB ⟨name, l⟩)) := by
  have hl : Later w (w.alloc (.cells #[.string name, .slice sA n sc] 24 (0, 0))) := Later.alloc _ _
  have hb : DefBox w.heap.size F name l (.slice sA n sc) (w.alloc (.cells #[.string name, .slice sA n sc] 24 (0, 0))) := ⟨by rw [World.size_alloc]; omega, heap_alloc_new _ _, h.kept (Kept.of_below hl F)⟩
  have C := hide (defParts_any (w := w.alloc (.cells #[.string name, .slice sA n sc] 24 (0, 0))) (g := w.heap.size) (o := 0) hb.1)
  have HL := hide hl
  have HB := hide hb
  have HSM := hide hsm
  have HK := hide hk
  clear h hl hb hsm hk
  go_enter Tryz.func15, Tryz.ntmps15
  go_wp2_with (fail)
  refine C.out.mono ?_
  rintro e w1 ⟨A1, ps, rfl, hlen, hpa, l1, hsub⟩
  have HL1 := hide (HL.out.trans l1)
  have D := hide (nwrite_any (St := DefBox w.heap.size F name l (.slice sA n sc)) hpa hlen.symm (Stay.refl (Nat.le_refl _)) (HB.out.later l1) (fun wa wb h hl => h.later hl)
    (hsub.1 _ ⟨name, l⟩ k HSM.out HK.out (fun wx h => ⟨box_at h.2.1 0 _ rfl, _, F, box_at h.2.1 1 _ rfl, h.2.2⟩)) (by have h1 := defF_room HSM.out; have h2 := k_small HK.out; have h3 := HK.out; rw [defFs_flat]; omega))
  clear hlen hpa l1 hsub C
  go_wp2_with (fail)
  refine D.out.mono ?_
  rintro e w2 ⟨A2, n2, c2, rfl, ho, hh, hc, hb⟩
  have R := hide (NewBytes.of (w := w) ⟨A2, n2, c2, rfl, ho, hh, hc, hb⟩ HL1.out)
  clear ho hh hc hb D
  go_wp2
  go_ret
  exact R.out
def OpBox (w0 : Nat) (F : Nat → Prop) (x : OpD) (v : Value) (w : World) : Prop := w0 < w.heap.size ∧ w.heap[w0]? = some (.cells (x.cells v).toArray 26 (0, 0)) ∧ StepsAt F w v x.steps
theorem OpBox.later {w0 : Nat} {F : Nat → Prop} {x : OpD} {v : Value} {w w' : World} (h : OpBox w0 F x v w) (hl : Later w w') : OpBox w0 F x v w' :=
  ⟨by have := Below.size hl; have := h.1; omega, (Below.block hl _ h.1).trans h.2.1, h.2.2.kept (Kept.of_below hl F)⟩
set_option maxHeartbeats 2000000 in
set_option maxRecDepth 100000 in
theorem opbytes_any {F : Nat → Prop} {x : OpD} {sA : Option Addr} {n sc k : Nat} {w : World} (hsm : x.sm k) (hk : k ≤ 5000) (h : StepsAt F w (.slice sA n sc) x.steps) :
    Calls Tryz.prog 13 #[.agg #[.int .i64 x.kind, .int .i64 x.client, .int .i64 x.request, .string x.name, .slice sA n sc, .int .i64 x.saga, .int .i64 x.step, .int .i64 x.try_, .bool x.back, .bool x.good]] w (NewBytes w (opB x)) := by
  have hl : Later w (w.alloc (.cells #[.int .i64 x.kind, .int .i64 x.client, .int .i64 x.request, .string x.name, .slice sA n sc, .int .i64 x.saga, .int .i64 x.step, .int .i64 x.try_, .bool x.back, .bool x.good] 26 (0, 0))) := Later.alloc _ _
  have hb : OpBox w.heap.size F x (.slice sA n sc) (w.alloc (.cells #[.int .i64 x.kind, .int .i64 x.client, .int .i64 x.request, .string x.name, .slice sA n sc, .int .i64 x.saga, .int .i64 x.step, .int .i64 x.try_, .bool x.back, .bool x.good] 26 (0, 0))) := ⟨by rw [World.size_alloc]; omega, heap_alloc_new _ _, h.kept (Kept.of_below hl F)⟩
  have C := hide (opParts_any (w := w.alloc (.cells #[.int .i64 x.kind, .int .i64 x.client, .int .i64 x.request, .string x.name, .slice sA n sc, .int .i64 x.saga, .int .i64 x.step, .int .i64 x.try_, .bool x.back, .bool x.good] 26 (0, 0))) (g := w.heap.size) (o := 0) hb.1)
  have HL := hide hl
  have HB := hide hb
  have HSM := hide hsm
  have HK := hide hk
  clear h hl hb hsm hk
  go_enter Tryz.func13, Tryz.ntmps13
  go_wp2_with (fail)
  refine C.out.mono ?_
  rintro e w1 ⟨A1, ps, rfl, hlen, hpa, l1, hsub⟩
  have HL1 := hide (HL.out.trans l1)
  have D := hide (nwrite_any (St := OpBox w.heap.size F x (.slice sA n sc)) hpa hlen.symm (Stay.refl (Nat.le_refl _)) (HB.out.later l1) (fun wa wb h hl => h.later hl)
    (hsub.1 _ x k HSM.out HK.out (fun wa wb h hl => h.later hl) (fun wx h => ⟨_, F, range_block h.2.1, h.2.2⟩)) (by have h1 := opF_room HSM.out; have h2 := k_small HK.out; have h3 := HK.out; rw [opFs_flat]; omega))
  clear hlen hpa l1 hsub C
  go_wp2_with (fail)
  refine D.out.mono ?_
  rintro e w2 ⟨A2, n2, c2, rfl, ho, hh, hc, hb⟩
  have R := hide (NewBytes.of (w := w) ⟨A2, n2, c2, rfl, ho, hh, hc, hb⟩ HL1.out)
  clear ho hh hc hb D
  go_wp2
  go_ret
  exact R.out
/-- The bytes of a message. -/
def bytesM (m : MsgD) : List Nat := if msgG0 m then sealed (msgB m) else []
def MsgBox (w0 : Nat) (F : Nat → Prop) (m : MsgD) (sv ov iv : Value) (w : World) : Prop := w0 < w.heap.size ∧ w.heap[w0]? = some (.cells (m.cells sv ov iv).toArray 35 (0, 0)) ∧ Lists F w m sv ov iv
theorem MsgBox.later {w0 : Nat} {F : Nat → Prop} {m : MsgD} {sv ov iv : Value} {w w' : World} (h : MsgBox w0 F m sv ov iv w) (hl : Later w w') : MsgBox w0 F m sv ov iv w' :=
  ⟨by have := Below.size hl; have := h.1; omega, (Below.block hl _ h.1).trans h.2.1, h.2.2.kept (Kept.of_below hl F)⟩
set_option maxHeartbeats 4000000 in
set_option maxRecDepth 100000 in
theorem bytes_any {F : Nat → Prop} {m : MsgD} {sv ov iv : Value} {w : World} (hn : m.ops.length ≤ 100000) (h : Lists F w m sv ov iv) (hT : Tab w) :
    Calls Tryz.prog 9 #[.agg (m.cells sv ov iv).toArray] w (NewBytes w (bytesM m)) := by
  obtain ⟨h1, ⟨ps, hps, h2⟩, h3⟩ := h
  obtain ⟨sA, sc, rfl, _⟩ := FlatAt.shape h1
  obtain ⟨oA, oc, rfl, _⟩ := FlatAt.shape h2.1
  obtain ⟨iA, ic, rfl, _⟩ := FlatAt.shape h3
  have hpl : ps.length = m.ops.length := by rw [← hps, List.length_map]
  have hl : Later w (w.alloc (.cells (m.cells (.slice sA m.op.steps.length sc) (.slice oA ps.length oc) (.slice iA m.incs.length ic)).toArray 35 (0, 0))) := Later.alloc _ _
  have C := hide (goodmsg_any F m sA oA iA m.op.steps.length sc ps.length oc m.incs.length ic ps _ rfl hpl rfl (h1.kept (Kept.of_below hl F)) hps (h2.kept (Kept.of_below hl F)) (h3.kept (Kept.of_below hl F)))
  have hls : Lists F w m (.slice sA m.op.steps.length sc) (.slice oA ps.length oc) (.slice iA m.incs.length ic) := ⟨h1, ⟨ps, hps, h2⟩, h3⟩
  have hC : Calls Tryz.prog 29 #[.agg (m.cells (.slice sA m.op.steps.length sc) (.slice oA ps.length oc) (.slice iA m.incs.length ic)).toArray] (w.alloc (.cells (m.cells (.slice sA m.op.steps.length sc) (.slice oA ps.length oc) (.slice iA m.incs.length ic)).toArray 35 (0, 0))) fun e w' => e = .returned (.bool (msgG0 m)) ∧ Later (w.alloc (.cells (m.cells (.slice sA m.op.steps.length sc) (.slice oA ps.length oc) (.slice iA m.incs.length ic)).toArray 35 (0, 0))) w' := C.out
  have HN := hide hn
  have HT := hide hT
  clear C h1 h2 h3 hpl hps hn hT hl
  generalize Value.slice sA m.op.steps.length sc = sv at *
  generalize Value.slice oA ps.length oc = ov at *
  generalize Value.slice iA m.incs.length ic = iv at *
  have C := hide hC
  have hx : (w.alloc (.cells (m.cells sv ov iv).toArray 35 (0, 0))).heap[w.heap.size]? = some (.cells (m.cells sv ov iv).toArray 35 (0, 0)) := heap_alloc_new _ _
  have HX := hide hx
  have HL : Hid (Later w (w.alloc (.cells (m.cells sv ov iv).toArray 35 (0, 0)))) := Later.alloc _ _
  have HB : Hid (MsgBox w.heap.size F m sv ov iv (w.alloc (.cells (m.cells sv ov iv).toArray 35 (0, 0)))) := ⟨lt_of_block hx, hx, hls.kept (Kept.of_below HL.out F)⟩
  clear hC hx hls
  obtain ⟨t, ht⟩ : ∃ t, msgG0 m = t := ⟨_, rfl⟩
  rw [ht] at C
  have HG := hide ht
  clear ht
  go_enter Tryz.func9, Tryz.ntmps9
  go_wp2_with (refine wpList_load_box (by rfl) 35 _ (by rfl) w.heap.size 0 (by rfl) 35 _ HX.out 34 _ Tryz.underlying35 (by rfl) (by kernel_rfl) (m.cells sv ov iv) (by simp [List.take_of_length_le (Nat.le_of_eq (m.len sv ov iv))]) (m.len sv ov iv) ?_)
  refine C.out.mono ?_
  rintro e w1 ⟨rfl, l1⟩
  have HL1 := hide (HL.out.trans l1)
  have HB1 := hide (HB.out.later l1)
  have D := hide (msgParts_any (w := w1) (g := w.heap.size) (o := 0) (HB.out.later l1).1)
  clear l1 C
  cases t with
  | false =>
    go_wp2
    go_ret
    have e0 : bytesM m = [] := by unfold bytesM; rw [HG.out]; rfl
    rw [e0]
    exact ⟨none, 0, 0, rfl, World.ownsRow_nil _ _ _ _, Holds.nil_ _ _, Nat.le_refl _, HL1.out⟩
  | true =>
    go_wp2_with (fail)
    refine D.out.mono ?_
    rintro e w2 ⟨A1, ps1, rfl, hlen, hpa, l2, hsub⟩
    have HL2 := hide (HL1.out.trans l2)
    have E := hide (nwrite_any (St := MsgBox w.heap.size F m sv ov iv) hpa hlen.symm (Stay.refl (Nat.le_refl _)) (HB1.out.later l2) (fun wa wb h hl => h.later hl)
      (hsub.1 _ m 5000 (msgG0_sm HG.out HN.out) (Nat.le_refl _) (fun wa wb h hl => h.later hl) (fun wx h => ⟨_, _, _, F, range_block h.2.1, h.2.2⟩)) (by rw [msgFs_flat]; have := msg_room HG.out HN.out; omega))
    clear hlen hpa l2 hsub D
    go_wp2_with (fail)
    refine E.out.mono ?_
    rintro e w3 ⟨A2, n2, c2, rfl, ho, hh, hc, hb⟩
    have HL3 := hide (HL2.out.trans (show Later w2 w3 from hb))
    have hlen : n2 = (msgB m).length := hh.1.symm
    have hpl : (msgB m).length ≤ 400000000 := Nat.le_trans (prec_len _) (msg_room HG.out HN.out)
    have S := hide (seal_any A2 n2 c2 w3.heap.size _ w3 hh (Nat.le_refl _) (by omega) (HT.out.later HL3.out))
    clear ho hh hc hb E hlen hpl
    go_wp2_with (fail)
    refine S.out.mono ?_
    rintro e w4 ⟨A3, n3, c3, rfl, ho, hh, hc, hb⟩
    have R := hide (NewBytes.of (w := w) ⟨A3, n3, c3, rfl, ho, hh, hc, hb⟩ HL3.out)
    clear ho hh hc hb S
    go_wp2
    go_ret
    have e0 : bytesM m = sealed (prec (msgFs m).flatten) := by unfold bytesM; rw [HG.out, msgFs_flat]; rfl
    rw [e0]
    exact R.out
set_option maxHeartbeats 4000000 in
set_option maxRecDepth 100000 in
theorem good_any9 {F : Nat → Prop} {m : MsgD} {sv ov iv : Value} {w : World} (hn : m.ops.length ≤ 100000) (h : Lists F w m sv ov iv) (hT : Tab w) :
    Calls Tryz.prog 7 #[.agg (m.cells sv ov iv).toArray] w fun e w' => e = .returned (.bool (decide (bytesM m ≠ []))) ∧ Later w w' := by
  have hl : Later w (w.alloc (.cells (m.cells sv ov iv).toArray 35 (0, 0))) := Later.alloc _ _
  have C := hide (bytes_any hn (h.kept (Kept.of_below hl F)) (hT.later hl))
  have HX : Hid ((w.alloc (.cells (m.cells sv ov iv).toArray 35 (0, 0))).heap[w.heap.size]? = some (.cells (m.cells sv ov iv).toArray 35 (0, 0))) := heap_alloc_new _ _
  have HL := hide hl
  clear hn h hT hl
  generalize bytesM m = b at C ⊢
  go_enter Tryz.func7, Tryz.ntmps7
  go_wp2_with (refine wpList_load_box (by rfl) 35 _ (by rfl) w.heap.size 0 (by rfl) 35 _ HX.out 34 _ Tryz.underlying35 (by rfl) (by kernel_rfl) (m.cells sv ov iv) (by simp [List.take_of_length_le (Nat.le_of_eq (m.len sv ov iv))]) (m.len sv ov iv) ?_)
  refine C.out.mono ?_
  rintro e w1 ⟨A, n, c, rfl, ho, hh, hc, hb⟩
  have hlen := hide hh.1
  have HL1 := hide (HL.out.trans (show Later _ w1 from hb))
  clear ho hh hb C
  go_wp2
  go_ret
  exact ⟨ret_bool (by cases b with | nil => have h := hlen.out; simp at h; subst h; rfl | cons a r => have h := hlen.out; simp at h; simp; omega), HL1.out⟩
end Go.Proofs.YtehiaeihkdfclaaGreatDoor
/- The walk over readGood, for operations. -/
namespace Go.Proofs.YtehiaeihkdfclaaGreatDoor
open Go.RowKit

/-- The good one of these bytes, or the error. -/
def readOp (l : List Nat) : Nat × OpD := if (pread l).1 ≠ 0 then ((pread l).1, .zero) else if opG (opR l) = true ∧ opB (opR l) = l then (0, opR l) else (4, .zero)
theorem readOp_1 {l : List Nat} (h : (pread l).1 ≠ 0) : readOp l = ((pread l).1, .zero) := by unfold readOp; rw [if_pos h]
theorem readOp_2 {l : List Nat} (h : (pread l).1 = 0) (h2 : ¬ (opG (opR l) = true ∧ opB (opR l) = l)) : readOp l = (4, .zero) := by unfold readOp; rw [if_neg (by simpa using h), if_neg h2]
theorem readOp_3 {l : List Nat} (h : (pread l).1 = 0) (h2 : opG (opR l) = true) (h3 : opB (opR l) = l) : readOp l = (0, opR l) := by unfold readOp; rw [if_neg (by simpa using h), if_pos ⟨h2, h3⟩]
/-- What is told of it. -/
def GotOp (w : World) (q : Nat × OpD) (e : Ending) (w' : World) : Prop :=
  ∃ (x : OpD) (er : Nat) (sA : Option Addr) (sc : Nat), x = q.2 ∧ er = q.1 ∧ e = .returned (.tuple #[.agg #[.int .i64 x.kind, .int .i64 x.client, .int .i64 x.request, .string x.name, .slice sA x.steps.length sc, .int .i64 x.saga, .int .i64 x.step, .int .i64 x.try_, .bool x.back, .bool x.good], .int .i64 (er : Int)]) ∧ StepsAt (w.heap.size ≤ ·) w' (.slice sA x.steps.length sc) x.steps ∧ Later w w'
set_option maxHeartbeats 2000000 in
set_option maxRecDepth 100000 in
theorem readgoodOp_any {w : World} {A : Option Addr} {n c : Nat} {l : List Nat} (hl : Holds w w.heap.size A n l) (hn : n ≤ 950000) (hc : n ≤ c) :
    Calls Tryz.prog 53 #[.slice A n c, .func (.func 36) #[] #[], .func (.func 11) #[] #[]] w (GotOp w (readOp l)) := by
  obtain ⟨W9, hW9⟩ : ∃ W, W = (((w.alloc (.cells #[.int .i64 0, .int .i64 0, .int .i64 0, .string ⟨#[]⟩, .slice none 0 0, .int .i64 0, .int .i64 0, .int .i64 0, .bool false, .bool false] 26 (0, 0))).alloc (.cells #[.int .i64 0, .int .i64 0, .int .i64 0, .string ⟨#[]⟩, .slice none 0 0, .int .i64 0, .int .i64 0, .int .i64 0, .bool false, .bool false] 26 (0, 0))).alloc (.cells #[.int .i64 0, .int .i64 0, .int .i64 0, .string ⟨#[]⟩, .slice none 0 0, .int .i64 0, .int .i64 0, .int .i64 0, .bool false, .bool false] 26 (0, 0))) := ⟨_, rfl⟩
  have hL9 : Later w W9 := by rw [hW9]; exact ((Later.alloc _ _).trans (Later.alloc _ _)).trans (Later.alloc _ _)
  obtain ⟨x0, x1, hz⟩ := heap_firsts w (.cells #[.int .i64 0, .int .i64 0, .int .i64 0, .string ⟨#[]⟩, .slice none 0 0, .int .i64 0, .int .i64 0, .int .i64 0, .bool false, .bool false] 26 (0, 0)) (.cells #[.int .i64 0, .int .i64 0, .int .i64 0, .string ⟨#[]⟩, .slice none 0 0, .int .i64 0, .int .i64 0, .int .i64 0, .bool false, .bool false] 26 (0, 0)) (.cells #[.int .i64 0, .int .i64 0, .int .i64 0, .string ⟨#[]⟩, .slice none 0 0, .int .i64 0, .int .i64 0, .int .i64 0, .bool false, .bool false] 26 (0, 0))
  have x2 := heap_third w (.cells #[.int .i64 0, .int .i64 0, .int .i64 0, .string ⟨#[]⟩, .slice none 0 0, .int .i64 0, .int .i64 0, .int .i64 0, .bool false, .bool false] 26 (0, 0)) (.cells #[.int .i64 0, .int .i64 0, .int .i64 0, .string ⟨#[]⟩, .slice none 0 0, .int .i64 0, .int .i64 0, .int .i64 0, .bool false, .bool false] 26 (0, 0)) (.cells #[.int .i64 0, .int .i64 0, .int .i64 0, .string ⟨#[]⟩, .slice none 0 0, .int .i64 0, .int .i64 0, .int .i64 0, .bool false, .bool false] 26 (0, 0))
  rw [← hW9] at x0 x1 x2 hz
  have C := hide (opParts_any (w := W9) (g := w.heap.size + 1) (o := 0) (by omega))
  have HL9 := hide hL9
  have X0 := hide x0
  have X1 := hide x1
  have X2 := hide x2
  have HZ := hide hz
  have HH := hide hl
  have HN := hide hn
  have HC := hide hc
  obtain ⟨er, her⟩ : ∃ q, (pread l).1 = q := ⟨_, rfl⟩
  have HER := hide her
  clear hL9 x0 x1 x2 hz hl hn hc her
  go_enter Tryz.func53, Tryz.ntmps53
  go_wp2_with (fail)
  rw [← hW9]
  clear hW9
  refine C.out.mono ?_
  rintro e w1 ⟨A1, ps, rfl, hlen, hpa, l1, hsub⟩
  have hz1 := Below.size l1
  have L1 := hide l1
  have Y1 : Hid (w1.heap[w.heap.size + 1]? = some (.cells #[.int .i64 0, .int .i64 0, .int .i64 0, .string ⟨#[]⟩, .slice none 0 0, .int .i64 0, .int .i64 0, .int .i64 0, .bool false, .bool false] 26 (0, 0))) := (Below.block l1 _ (by have := HZ.out; omega)).trans X1.out
  have D := hide (nread_any (P := fun k => k = w.heap.size + 1 ∨ w1.heap.size ≤ k) (A := A) (n := n) (c := c) (l := l) (s := OpD.zero) (invop_ok (w.heap.size + 1)) hpa hlen.symm (Stay.refl (Nat.le_refl _))
    (hsub.2 _ _ opSz (Lens.id OpD) (invop_ok (w.heap.size + 1)) (invop_pl (w.heap.size + 1))) (lift_nodup _ opPs_own) (op_grow (invop_pl (w.heap.size + 1))) (fun k h1 h2 h => by have := HZ.out; rcases h with h | h <;> omega) (fun k h => Or.inr h)
    (invop_zero (Or.inl rfl) Y1.out) (((HH.out.below HL9.out).more (Below.size HL9.out)).later l1) (by have := HN.out; omega) HC.out (by simp only [opSz, OpD.zero, List.length_nil]; have := HN.out; omega))
  have HPA := hide hpa
  have HLEN := hide hlen
  have HSUB := hide hsub
  clear hpa hlen hsub l1 C
  rw [HER.out] at D
  go_wp2_with (fail)
  refine D.out.mono ?_
  rintro e w2 ⟨rfl, hv2, ht2⟩
  have hs2 := ht2.size
  have hb9 : Below (w.heap.size + 1) W9 w2 := (show Below (w.heap.size + 1) W9 w1 from Below.mono L1.out (by have := HZ.out; omega)).trans (ht2.below (fun k h => by have := HZ.out; rcases h with h | h <;> omega) (by have := HZ.out; omega))
  have HLW : Hid (Later w w2) := Below.trans HL9.out (Below.mono hb9 (by omega))
  have X0' : Hid (w2.heap[w.heap.size]? = some (.cells #[.int .i64 0, .int .i64 0, .int .i64 0, .string ⟨#[]⟩, .slice none 0 0, .int .i64 0, .int .i64 0, .int .i64 0, .bool false, .bool false] 26 (0, 0))) := (hb9.block _ (by omega)).trans X0.out
  have X2' : Hid (w2.heap[w.heap.size + 1 + 1]? = some (.cells #[.int .i64 0, .int .i64 0, .int .i64 0, .string ⟨#[]⟩, .slice none 0 0, .int .i64 0, .int .i64 0, .int .i64 0, .bool false, .bool false] 26 (0, 0))) := (ht2.block _ (by have := HZ.out; omega) (fun h => by have := HZ.out; rcases h with h | h <;> omega)).trans ((Below.block L1.out _ (by have := HZ.out; omega)).trans X2.out)
  have hv3 : InvOp (w.heap.size + 1) (fun k => k = w.heap.size + 1 ∨ w1.heap.size ≤ k) (opR l) w2 := by
    rw [Lens.rdB] at hv2
    exact hv2
  obtain ⟨x, hx⟩ : ∃ x, x = opR l := ⟨_, rfl⟩
  rw [← hx] at hv3
  have HXE := hide hx
  obtain ⟨_, _, sv, hx6, hos⟩ := hv3
  obtain ⟨sA, sc, rfl⟩ := own_shape hos.1
  have HSW : Hid (StepsAt (w.heap.size < ·) w2 (.slice sA x.steps.length sc) x.steps) := hos.flat fun q h => by have := HZ.out; rcases h with h | h <;> omega
  have HS : Hid (StepsAt (fun _ => True) w2 (.slice sA x.steps.length sc) x.steps) := HSW.out.mono fun _ _ _ => trivial
  have X6 : Hid (w2.heap[w.heap.size + 1]? = some (.cells #[.int .i64 x.kind, .int .i64 x.client, .int .i64 x.request, .string x.name, .slice sA x.steps.length sc, .int .i64 x.saga, .int .i64 x.step, .int .i64 x.try_, .bool x.back, .bool x.good] 26 (0, 0))) := hx6
  have HST : Hid (Stay W9.heap.size w1.heap.size w1 w2) := (Stay.refl (Nat.le_refl _)).turned ht2 (fun k h1 h2 h => by have := HZ.out; rcases h with h | h <;> omega)
  have HPA2 : Hid (PartsAt W9.heap.size w1.heap.size w2 (.slice A1 9 9) ps) := HPA.out.stay HST.out hs2
  have HBH : Hid (Holds w2 w.heap.size A n l) := HH.out.below HLW.out
  have HW0 : Hid (w.heap.size + 2 < w2.heap.size) := by show _ < _; have := HZ.out; omega
  clear hv2 ht2 hs2 hb9 hx hx6 hos D
  by_cases h0 : er = 0
  · subst h0
    have G := hide (goodop_any (fun _ => True) x sA x.steps.length sc w2 rfl HS.out)
    obtain ⟨t, ht⟩ : ∃ t, opG x = t := ⟨_, rfl⟩
    have ht9 : opG x = t := ht
    rw [ht9] at G
    have HG := hide ht
    clear ht ht9
    go_wp2_with (refine wpList_load_box (by rfl) 26 _ (by rfl) (w.heap.size + 1) 0 (by rfl) 26 _ X6.out 10 _ Tryz.underlying26 (by rfl) (by kernel_rfl) [.int .i64 x.kind, .int .i64 x.client, .int .i64 x.request, .string x.name, .slice sA x.steps.length sc, .int .i64 x.saga, .int .i64 x.step, .int .i64 x.try_, .bool x.back, .bool x.good] (by rfl) (by rfl) ?_)
    refine G.out.mono ?_
    rintro e w3 ⟨rfl, l3⟩
    have L3 := hide l3
    have HLW3 := hide (HLW.out.trans l3)
    have X63 := hide ((Below.block l3 _ (by have := HW0.out; omega)).trans X6.out)
    have X03 := hide ((Below.block l3 _ (by have := HW0.out; omega)).trans X0'.out)
    have X23 := hide ((Below.block l3 _ (by have := HW0.out; omega)).trans X2'.out)
    have HSW3 := hide (StepsAt.kept HSW.out (Kept.of_below l3 _))
    clear l3 G
    cases t with
    | false =>
      go_wp2_with (first
        | (refine wpList_load_box (by rfl) 26 _ (by rfl) (w.heap.size + 1 + 1) 0 (by rfl) 26 _ X23.out 10 _ Tryz.underlying26 (by rfl) (by kernel_rfl) [.int .i64 0, .int .i64 0, .int .i64 0, .string ⟨#[]⟩, .slice none 0 0, .int .i64 0, .int .i64 0, .int .i64 0, .bool false, .bool false] (by rfl) (by rfl) ?_)
        | (refine wpList_store_box (by rfl) 26 _ _ (by rfl) w.heap.size 0 #[.int .i64 0, .int .i64 0, .int .i64 0, .string ⟨#[]⟩, .slice none 0 0, .int .i64 0, .int .i64 0, .int .i64 0, .bool false, .bool false] (by rfl) (by rfl) 26 _ X03.out (by kernel_rfl) (by exact Nat.le_of_ble_eq_true rfl) (by intro u hu; simp at hu; rcases hu with rfl | rfl | rfl | rfl | rfl | rfl | rfl | rfl | rfl | rfl <;> rfl) ?_; intro w5 hb5 hg5))
      have hb6 : w5.heap[w.heap.size]? = some (.cells #[.int .i64 0, .int .i64 0, .int .i64 0, .string ⟨#[]⟩, .slice none 0 0, .int .i64 0, .int .i64 0, .int .i64 0, .bool false, .bool false] 26 (0, 0)) := by simpa [putAt] using hb5
      refine bodyPost_ret (results_box2 Tryz.results53 _ _ w.heap.size 26 _ _ (by rfl) hb6 Tryz.underlying26 (by rfl) (by kernel_rfl) _ (by rfl)) (by rfl) ?_
      refine ⟨.zero, 4, none, 0, by rw [readOp_2 HER.out (by rw [← HXE.out, HG.out]; simp)], by rw [readOp_2 HER.out (by rw [← HXE.out, HG.out]; simp)], rfl, StepsAt.nil_ _ _, ?_⟩
      exact Below.trans HLW3.out ((Below.refl _ _).grown hg5 (Below.size HLW3.out) fun k hk => by have := Option.some.inj hk; omega)
    | true =>
      have E := hide (nwrite_any (St := OpBox (w.heap.size + 1) (fun _ => True) x (.slice sA x.steps.length sc)) (HPA2.out.stay ((Stay.refl HST.out.1).later L3.out) (Below.size L3.out)) HLEN.out.symm (HST.out.later L3.out) ⟨by have := Below.size L3.out; have := HW0.out; omega, X63.out, StepsAt.kept HS.out (Kept.of_below L3.out _)⟩ (fun wa wb h hl => h.later hl)
        (let hsub := HSUB.out; hsub.1 _ x 16 ((opG_sm HG.out)) (by omega) (fun wa wb h hl => h.later hl) (fun wx h => ⟨_, _, range_block h.2.1, h.2.2⟩)) (by have h1 := opF_room (opG_sm HG.out); rw [opFs_flat]; omega))
      go_wp2_with (fail)
      refine E.out.mono ?_
      rintro e w4 ⟨A2, n2, c2, rfl, ho, hh, hc2, hb4⟩
      have L4 := hide (show Later w3 w4 from hb4)
      have HLW4 := hide (HLW3.out.trans L4.out)
      have X64 := hide ((Below.block hb4 _ (lt_of_block X63.out)).trans X63.out)
      have X04 := hide ((Below.block hb4 _ (lt_of_block X03.out)).trans X03.out)
      have X24 := hide ((Below.block hb4 _ (lt_of_block X23.out)).trans X23.out)
      have HSW4 := hide (StepsAt.kept HSW3.out (Kept.of_below hb4 _))
      obtain ⟨q, hq⟩ : ∃ q, decide (opB x = l) = q := ⟨_, rfl⟩
      have hh' : Holds w4 w4.heap.size A2 n2 (opB x) := hh
      have K := hide (equal_any A2 A n2 c2 n c _ _ _ _ w4 hh' ((HBH.out.below (Below.mono L3.out (Below.size HLW.out))).below (Below.mono hb4 (Below.size HLW3.out))))
      rw [hq] at K
      have HQ := hide hq
      clear ho hh hh' hb4 hq E
      go_wp2_with (fail)
      refine K.out.mono ?_
      rintro e w5 ⟨rfl, rfl⟩
      clear K
      cases q with
      | false =>
        go_wp2_with (first
          | (refine wpList_load_box (by rfl) 26 _ (by rfl) (w.heap.size + 1 + 1) 0 (by rfl) 26 _ X24.out 10 _ Tryz.underlying26 (by rfl) (by kernel_rfl) [.int .i64 0, .int .i64 0, .int .i64 0, .string ⟨#[]⟩, .slice none 0 0, .int .i64 0, .int .i64 0, .int .i64 0, .bool false, .bool false] (by rfl) (by rfl) ?_)
          | (refine wpList_store_box (by rfl) 26 _ _ (by rfl) w.heap.size 0 #[.int .i64 0, .int .i64 0, .int .i64 0, .string ⟨#[]⟩, .slice none 0 0, .int .i64 0, .int .i64 0, .int .i64 0, .bool false, .bool false] (by rfl) (by rfl) 26 _ X04.out (by kernel_rfl) (by exact Nat.le_of_ble_eq_true rfl) (by intro u hu; simp at hu; rcases hu with rfl | rfl | rfl | rfl | rfl | rfl | rfl | rfl | rfl | rfl <;> rfl) ?_; intro w5 hb5 hg5))
        have hb6 : w5.heap[w.heap.size]? = some (.cells #[.int .i64 0, .int .i64 0, .int .i64 0, .string ⟨#[]⟩, .slice none 0 0, .int .i64 0, .int .i64 0, .int .i64 0, .bool false, .bool false] 26 (0, 0)) := by simpa [putAt] using hb5
        refine bodyPost_ret (results_box2 Tryz.results53 _ _ w.heap.size 26 _ _ (by rfl) hb6 Tryz.underlying26 (by rfl) (by kernel_rfl) _ (by rfl)) (by rfl) ?_
        have hno : ¬ (opG (opR l) = true ∧ opB (opR l) = l) := fun h => by rw [← HXE.out] at h; exact of_decide_eq_false HQ.out h.2
        refine ⟨.zero, 4, none, 0, by rw [readOp_2 HER.out hno], by rw [readOp_2 HER.out hno], rfl, StepsAt.nil_ _ _, ?_⟩
        exact Below.trans HLW4.out ((Below.refl _ _).grown hg5 (Below.size HLW4.out) fun k hk => by have := Option.some.inj hk; omega)
      | true =>
        go_wp2_with (first
          | (refine wpList_load_box (by rfl) 26 _ (by rfl) (w.heap.size + 1) 0 (by rfl) 26 _ X64.out 10 _ Tryz.underlying26 (by rfl) (by kernel_rfl) [.int .i64 x.kind, .int .i64 x.client, .int .i64 x.request, .string x.name, .slice sA x.steps.length sc, .int .i64 x.saga, .int .i64 x.step, .int .i64 x.try_, .bool x.back, .bool x.good] (by rfl) (by rfl) ?_)
          | (refine wpList_store_box (by rfl) 26 _ _ (by rfl) w.heap.size 0 #[.int .i64 x.kind, .int .i64 x.client, .int .i64 x.request, .string x.name, .slice sA x.steps.length sc, .int .i64 x.saga, .int .i64 x.step, .int .i64 x.try_, .bool x.back, .bool x.good] (by rfl) (by rfl) 26 _ X04.out (by kernel_rfl) (by exact Nat.le_of_ble_eq_true rfl) (by intro u hu; simp at hu; rcases hu with rfl | rfl | rfl | rfl | rfl | rfl | rfl | rfl | rfl | rfl <;> rfl) ?_; intro w5 hb5 hg5))
        have hb6 : w5.heap[w.heap.size]? = some (.cells #[.int .i64 x.kind, .int .i64 x.client, .int .i64 x.request, .string x.name, .slice sA x.steps.length sc, .int .i64 x.saga, .int .i64 x.step, .int .i64 x.try_, .bool x.back, .bool x.good] 26 (0, 0)) := by simpa [putAt] using hb5
        refine bodyPost_ret (results_box2 Tryz.results53 _ _ w.heap.size 26 _ _ (by rfl) hb6 Tryz.underlying26 (by rfl) (by kernel_rfl) _ (by rfl)) (by rfl) ?_
        have hyes := readOp_3 HER.out (by rw [← HXE.out]; exact HG.out) (by rw [← HXE.out]; exact of_decide_eq_true HQ.out)
        refine ⟨x, 0, sA, sc, by rw [hyes, HXE.out], by rw [hyes], rfl, ?_, ?_⟩
        · exact (HSW4.out.kept (Kept.of_grown hg5 fun g hg h => by have := Option.some.inj hg; omega)).mono fun _ _ h => Nat.le_of_lt h
        · exact Below.trans HLW4.out ((Below.refl _ _).grown hg5 (Below.size HLW4.out) fun k hk => by have := Option.some.inj hk; omega)
  · have hnz : ((er : Int) != 0) = true := by simp; omega
    have H0 := hide h0
    clear h0
    go_wp2_with (first
      | (refine wpList_load_box (by rfl) 26 _ (by rfl) (w.heap.size + 1 + 1) 0 (by rfl) 26 _ X2'.out 10 _ Tryz.underlying26 (by rfl) (by kernel_rfl) [.int .i64 0, .int .i64 0, .int .i64 0, .string ⟨#[]⟩, .slice none 0 0, .int .i64 0, .int .i64 0, .int .i64 0, .bool false, .bool false] (by rfl) (by rfl) ?_)
      | (refine wpList_store_box (by rfl) 26 _ _ (by rfl) w.heap.size 0 #[.int .i64 0, .int .i64 0, .int .i64 0, .string ⟨#[]⟩, .slice none 0 0, .int .i64 0, .int .i64 0, .int .i64 0, .bool false, .bool false] (by rfl) (by rfl) 26 _ X0'.out (by kernel_rfl) (by exact Nat.le_of_ble_eq_true rfl) (by intro u hu; simp at hu; rcases hu with rfl | rfl | rfl | rfl | rfl | rfl | rfl | rfl | rfl | rfl <;> rfl) ?_; intro w5 hb5 hg5))
    have hb6 : w5.heap[w.heap.size]? = some (.cells #[.int .i64 0, .int .i64 0, .int .i64 0, .string ⟨#[]⟩, .slice none 0 0, .int .i64 0, .int .i64 0, .int .i64 0, .bool false, .bool false] 26 (0, 0)) := by simpa [putAt] using hb5
    refine bodyPost_ret (results_box2 Tryz.results53 _ _ w.heap.size 26 _ _ (by rfl) hb6 Tryz.underlying26 (by rfl) (by kernel_rfl) _ (by rfl)) (by rfl) ?_
    have hr := readOp_1 (l := l) (by rw [HER.out]; exact H0.out)
    refine ⟨.zero, er, none, 0, by rw [hr], by rw [hr, HER.out], rfl, StepsAt.nil_ _ _, ?_⟩
    exact Below.trans HLW.out ((Below.refl _ _).grown hg5 (Below.size HLW.out) fun k hk => by have := Option.some.inj hk; omega)
end Go.Proofs.YtehiaeihkdfclaaGreatDoor
/- The walk over readGood, for definitions. -/
namespace Go.Proofs.YtehiaeihkdfclaaGreatDoor
open Go.RowKit

/-- The good one of these bytes, or the error. -/
def readDef (l : List Nat) : Nat × DefD := if (pread l).1 ≠ 0 then ((pread l).1, .zero) else if defG (defR l) = true ∧ defB (defR l) = l then (0, defR l) else (4, .zero)
theorem readDef_1 {l : List Nat} (h : (pread l).1 ≠ 0) : readDef l = ((pread l).1, .zero) := by unfold readDef; rw [if_pos h]
theorem readDef_2 {l : List Nat} (h : (pread l).1 = 0) (h2 : ¬ (defG (defR l) = true ∧ defB (defR l) = l)) : readDef l = (4, .zero) := by unfold readDef; rw [if_neg (by simpa using h), if_neg h2]
theorem readDef_3 {l : List Nat} (h : (pread l).1 = 0) (h2 : defG (defR l) = true) (h3 : defB (defR l) = l) : readDef l = (0, defR l) := by unfold readDef; rw [if_neg (by simpa using h), if_pos ⟨h2, h3⟩]
/-- What is told of it. -/
def GotDef (w : World) (q : Nat × DefD) (e : Ending) (w' : World) : Prop :=
  ∃ (x : DefD) (er : Nat) (sA : Option Addr) (sc : Nat), x = q.2 ∧ er = q.1 ∧ e = .returned (.tuple #[.agg #[.string x.name, .slice sA x.steps.length sc], .int .i64 (er : Int)]) ∧ StepsAt (w.heap.size ≤ ·) w' (.slice sA x.steps.length sc) x.steps ∧ Later w w'
set_option maxHeartbeats 2000000 in
set_option maxRecDepth 100000 in
theorem readgoodDef_any {w : World} {A : Option Addr} {n c : Nat} {l : List Nat} (hl : Holds w w.heap.size A n l) (hn : n ≤ 950000) (hc : n ≤ c) :
    Calls Tryz.prog 54 #[.slice A n c, .func (.func 41) #[] #[], .func (.func 34) #[] #[]] w (GotDef w (readDef l)) := by
  obtain ⟨W9, hW9⟩ : ∃ W, W = (((w.alloc (.cells #[.string ⟨#[]⟩, .slice none 0 0] 24 (0, 0))).alloc (.cells #[.string ⟨#[]⟩, .slice none 0 0] 24 (0, 0))).alloc (.cells #[.string ⟨#[]⟩, .slice none 0 0] 24 (0, 0))) := ⟨_, rfl⟩
  have hL9 : Later w W9 := by rw [hW9]; exact ((Later.alloc _ _).trans (Later.alloc _ _)).trans (Later.alloc _ _)
  obtain ⟨x0, x1, hz⟩ := heap_firsts w (.cells #[.string ⟨#[]⟩, .slice none 0 0] 24 (0, 0)) (.cells #[.string ⟨#[]⟩, .slice none 0 0] 24 (0, 0)) (.cells #[.string ⟨#[]⟩, .slice none 0 0] 24 (0, 0))
  have x2 := heap_third w (.cells #[.string ⟨#[]⟩, .slice none 0 0] 24 (0, 0)) (.cells #[.string ⟨#[]⟩, .slice none 0 0] 24 (0, 0)) (.cells #[.string ⟨#[]⟩, .slice none 0 0] 24 (0, 0))
  rw [← hW9] at x0 x1 x2 hz
  have C := hide (defParts_any (w := W9) (g := w.heap.size + 1) (o := 0) (by omega))
  have HL9 := hide hL9
  have X0 := hide x0
  have X1 := hide x1
  have X2 := hide x2
  have HZ := hide hz
  have HH := hide hl
  have HN := hide hn
  have HC := hide hc
  obtain ⟨er, her⟩ : ∃ q, (pread l).1 = q := ⟨_, rfl⟩
  have HER := hide her
  clear hL9 x0 x1 x2 hz hl hn hc her
  go_enter Tryz.func54, Tryz.ntmps54
  go_wp2_with (fail)
  rw [← hW9]
  clear hW9
  refine C.out.mono ?_
  rintro e w1 ⟨A1, ps, rfl, hlen, hpa, l1, hsub⟩
  have hz1 := Below.size l1
  have L1 := hide l1
  have Y1 : Hid (w1.heap[w.heap.size + 1]? = some (.cells #[.string ⟨#[]⟩, .slice none 0 0] 24 (0, 0))) := (Below.block l1 _ (by have := HZ.out; omega)).trans X1.out
  have D := hide (nread_any (P := fun k => k = w.heap.size + 1 ∨ w1.heap.size ≤ k) (A := A) (n := n) (c := c) (l := l) (s := DefD.zero) (invdef_ok (w.heap.size + 1)) hpa hlen.symm (Stay.refl (Nat.le_refl _))
    (hsub.2 _ _ defSz (Lens.id DefD) (invdef_ok (w.heap.size + 1)) (invdef_pl (w.heap.size + 1))) (lift_nodup _ defPs_own) (def_grow (invdef_pl (w.heap.size + 1))) (fun k h1 h2 h => by have := HZ.out; rcases h with h | h <;> omega) (fun k h => Or.inr h)
    (invdef_zero (Or.inl rfl) Y1.out) (((HH.out.below HL9.out).more (Below.size HL9.out)).later l1) (by have := HN.out; omega) HC.out (by simp only [defSz, DefD.zero, List.length_nil]; have := HN.out; omega))
  have HPA := hide hpa
  have HLEN := hide hlen
  have HSUB := hide hsub
  clear hpa hlen hsub l1 C
  rw [HER.out] at D
  go_wp2_with (fail)
  refine D.out.mono ?_
  rintro e w2 ⟨rfl, hv2, ht2⟩
  have hs2 := ht2.size
  have hb9 : Below (w.heap.size + 1) W9 w2 := (show Below (w.heap.size + 1) W9 w1 from Below.mono L1.out (by have := HZ.out; omega)).trans (ht2.below (fun k h => by have := HZ.out; rcases h with h | h <;> omega) (by have := HZ.out; omega))
  have HLW : Hid (Later w w2) := Below.trans HL9.out (Below.mono hb9 (by omega))
  have X0' : Hid (w2.heap[w.heap.size]? = some (.cells #[.string ⟨#[]⟩, .slice none 0 0] 24 (0, 0))) := (hb9.block _ (by omega)).trans X0.out
  have X2' : Hid (w2.heap[w.heap.size + 1 + 1]? = some (.cells #[.string ⟨#[]⟩, .slice none 0 0] 24 (0, 0))) := (ht2.block _ (by have := HZ.out; omega) (fun h => by have := HZ.out; rcases h with h | h <;> omega)).trans ((Below.block L1.out _ (by have := HZ.out; omega)).trans X2.out)
  have hv3 : InvDef (w.heap.size + 1) (fun k => k = w.heap.size + 1 ∨ w1.heap.size ≤ k) (defR l) w2 := by
    rw [Lens.rdB] at hv2
    exact hv2
  obtain ⟨x, hx⟩ : ∃ x, x = defR l := ⟨_, rfl⟩
  rw [← hx] at hv3
  have HXE := hide hx
  obtain ⟨_, _, sv, hx6, hos⟩ := hv3
  obtain ⟨sA, sc, rfl⟩ := own_shape hos.1
  have HSW : Hid (StepsAt (w.heap.size < ·) w2 (.slice sA x.steps.length sc) x.steps) := hos.flat fun q h => by have := HZ.out; rcases h with h | h <;> omega
  have HS : Hid (StepsAt (fun _ => True) w2 (.slice sA x.steps.length sc) x.steps) := HSW.out.mono fun _ _ _ => trivial
  have X6 : Hid (w2.heap[w.heap.size + 1]? = some (.cells #[.string x.name, .slice sA x.steps.length sc] 24 (0, 0))) := hx6
  have HST : Hid (Stay W9.heap.size w1.heap.size w1 w2) := (Stay.refl (Nat.le_refl _)).turned ht2 (fun k h1 h2 h => by have := HZ.out; rcases h with h | h <;> omega)
  have HPA2 : Hid (PartsAt W9.heap.size w1.heap.size w2 (.slice A1 2 2) ps) := HPA.out.stay HST.out hs2
  have HBH : Hid (Holds w2 w.heap.size A n l) := HH.out.below HLW.out
  have HW0 : Hid (w.heap.size + 2 < w2.heap.size) := by show _ < _; have := HZ.out; omega
  clear hv2 ht2 hs2 hb9 hx hx6 hos D
  by_cases h0 : er = 0
  · subst h0
    have G := hide (gooddef_any (fun _ => True) x.name x.steps sA x.steps.length sc w2 rfl HS.out)
    obtain ⟨t, ht⟩ : ∃ t, defG x = t := ⟨_, rfl⟩
    have ht9 : defG ⟨x.name, x.steps⟩ = t := ht
    rw [ht9] at G
    have HG := hide ht
    clear ht ht9
    go_wp2_with (refine wpList_load_box (by rfl) 24 _ (by rfl) (w.heap.size + 1) 0 (by rfl) 24 _ X6.out 2 _ Tryz.underlying24 (by rfl) (by kernel_rfl) [.string x.name, .slice sA x.steps.length sc] (by rfl) (by rfl) ?_)
    refine G.out.mono ?_
    rintro e w3 ⟨rfl, l3⟩
    have L3 := hide l3
    have HLW3 := hide (HLW.out.trans l3)
    have X63 := hide ((Below.block l3 _ (by have := HW0.out; omega)).trans X6.out)
    have X03 := hide ((Below.block l3 _ (by have := HW0.out; omega)).trans X0'.out)
    have X23 := hide ((Below.block l3 _ (by have := HW0.out; omega)).trans X2'.out)
    have HSW3 := hide (StepsAt.kept HSW.out (Kept.of_below l3 _))
    clear l3 G
    cases t with
    | false =>
      go_wp2_with (first
        | (refine wpList_load_box (by rfl) 24 _ (by rfl) (w.heap.size + 1 + 1) 0 (by rfl) 24 _ X23.out 2 _ Tryz.underlying24 (by rfl) (by kernel_rfl) [.string ⟨#[]⟩, .slice none 0 0] (by rfl) (by rfl) ?_)
        | (refine wpList_store_box (by rfl) 24 _ _ (by rfl) w.heap.size 0 #[.string ⟨#[]⟩, .slice none 0 0] (by rfl) (by rfl) 24 _ X03.out (by kernel_rfl) (by exact Nat.le_of_ble_eq_true rfl) (by intro u hu; simp at hu; rcases hu with rfl | rfl <;> rfl) ?_; intro w5 hb5 hg5))
      have hb6 : w5.heap[w.heap.size]? = some (.cells #[.string ⟨#[]⟩, .slice none 0 0] 24 (0, 0)) := by simpa [putAt] using hb5
      refine bodyPost_ret (results_box2 Tryz.results54 _ _ w.heap.size 24 _ _ (by rfl) hb6 Tryz.underlying24 (by rfl) (by kernel_rfl) _ (by rfl)) (by rfl) ?_
      refine ⟨.zero, 4, none, 0, by rw [readDef_2 HER.out (by rw [← HXE.out, HG.out]; simp)], by rw [readDef_2 HER.out (by rw [← HXE.out, HG.out]; simp)], rfl, StepsAt.nil_ _ _, ?_⟩
      exact Below.trans HLW3.out ((Below.refl _ _).grown hg5 (Below.size HLW3.out) fun k hk => by have := Option.some.inj hk; omega)
    | true =>
      have E := hide (nwrite_any (St := DefBox (w.heap.size + 1) (fun _ => True) x.name x.steps (.slice sA x.steps.length sc)) (HPA2.out.stay ((Stay.refl HST.out.1).later L3.out) (Below.size L3.out)) HLEN.out.symm (HST.out.later L3.out) ⟨by have := Below.size L3.out; have := HW0.out; omega, X63.out, StepsAt.kept HS.out (Kept.of_below L3.out _)⟩ (fun wa wb h hl => h.later hl)
        (let hsub := HSUB.out; hsub.1 _ x 16 ((defG_sm HG.out)) (by omega) (fun wx h => ⟨box_at h.2.1 0 _ rfl, _, _, box_at h.2.1 1 _ rfl, h.2.2⟩)) (by have h1 := defF_room (defG_sm HG.out); rw [defFs_flat]; omega))
      go_wp2_with (fail)
      refine E.out.mono ?_
      rintro e w4 ⟨A2, n2, c2, rfl, ho, hh, hc2, hb4⟩
      have L4 := hide (show Later w3 w4 from hb4)
      have HLW4 := hide (HLW3.out.trans L4.out)
      have X64 := hide ((Below.block hb4 _ (lt_of_block X63.out)).trans X63.out)
      have X04 := hide ((Below.block hb4 _ (lt_of_block X03.out)).trans X03.out)
      have X24 := hide ((Below.block hb4 _ (lt_of_block X23.out)).trans X23.out)
      have HSW4 := hide (StepsAt.kept HSW3.out (Kept.of_below hb4 _))
      obtain ⟨q, hq⟩ : ∃ q, decide (defB x = l) = q := ⟨_, rfl⟩
      have hh' : Holds w4 w4.heap.size A2 n2 (defB x) := hh
      have K := hide (equal_any A2 A n2 c2 n c _ _ _ _ w4 hh' ((HBH.out.below (Below.mono L3.out (Below.size HLW.out))).below (Below.mono hb4 (Below.size HLW3.out))))
      rw [hq] at K
      have HQ := hide hq
      clear ho hh hh' hb4 hq E
      go_wp2_with (fail)
      refine K.out.mono ?_
      rintro e w5 ⟨rfl, rfl⟩
      clear K
      cases q with
      | false =>
        go_wp2_with (first
          | (refine wpList_load_box (by rfl) 24 _ (by rfl) (w.heap.size + 1 + 1) 0 (by rfl) 24 _ X24.out 2 _ Tryz.underlying24 (by rfl) (by kernel_rfl) [.string ⟨#[]⟩, .slice none 0 0] (by rfl) (by rfl) ?_)
          | (refine wpList_store_box (by rfl) 24 _ _ (by rfl) w.heap.size 0 #[.string ⟨#[]⟩, .slice none 0 0] (by rfl) (by rfl) 24 _ X04.out (by kernel_rfl) (by exact Nat.le_of_ble_eq_true rfl) (by intro u hu; simp at hu; rcases hu with rfl | rfl <;> rfl) ?_; intro w5 hb5 hg5))
        have hb6 : w5.heap[w.heap.size]? = some (.cells #[.string ⟨#[]⟩, .slice none 0 0] 24 (0, 0)) := by simpa [putAt] using hb5
        refine bodyPost_ret (results_box2 Tryz.results54 _ _ w.heap.size 24 _ _ (by rfl) hb6 Tryz.underlying24 (by rfl) (by kernel_rfl) _ (by rfl)) (by rfl) ?_
        have hno : ¬ (defG (defR l) = true ∧ defB (defR l) = l) := fun h => by rw [← HXE.out] at h; exact of_decide_eq_false HQ.out h.2
        refine ⟨.zero, 4, none, 0, by rw [readDef_2 HER.out hno], by rw [readDef_2 HER.out hno], rfl, StepsAt.nil_ _ _, ?_⟩
        exact Below.trans HLW4.out ((Below.refl _ _).grown hg5 (Below.size HLW4.out) fun k hk => by have := Option.some.inj hk; omega)
      | true =>
        go_wp2_with (first
          | (refine wpList_load_box (by rfl) 24 _ (by rfl) (w.heap.size + 1) 0 (by rfl) 24 _ X64.out 2 _ Tryz.underlying24 (by rfl) (by kernel_rfl) [.string x.name, .slice sA x.steps.length sc] (by rfl) (by rfl) ?_)
          | (refine wpList_store_box (by rfl) 24 _ _ (by rfl) w.heap.size 0 #[.string x.name, .slice sA x.steps.length sc] (by rfl) (by rfl) 24 _ X04.out (by kernel_rfl) (by exact Nat.le_of_ble_eq_true rfl) (by intro u hu; simp at hu; rcases hu with rfl | rfl <;> rfl) ?_; intro w5 hb5 hg5))
        have hb6 : w5.heap[w.heap.size]? = some (.cells #[.string x.name, .slice sA x.steps.length sc] 24 (0, 0)) := by simpa [putAt] using hb5
        refine bodyPost_ret (results_box2 Tryz.results54 _ _ w.heap.size 24 _ _ (by rfl) hb6 Tryz.underlying24 (by rfl) (by kernel_rfl) _ (by rfl)) (by rfl) ?_
        have hyes := readDef_3 HER.out (by rw [← HXE.out]; exact HG.out) (by rw [← HXE.out]; exact of_decide_eq_true HQ.out)
        refine ⟨x, 0, sA, sc, by rw [hyes, HXE.out], by rw [hyes], rfl, ?_, ?_⟩
        · exact (HSW4.out.kept (Kept.of_grown hg5 fun g hg h => by have := Option.some.inj hg; omega)).mono fun _ _ h => Nat.le_of_lt h
        · exact Below.trans HLW4.out ((Below.refl _ _).grown hg5 (Below.size HLW4.out) fun k hk => by have := Option.some.inj hk; omega)
  · have hnz : ((er : Int) != 0) = true := by simp; omega
    have H0 := hide h0
    clear h0
    go_wp2_with (first
      | (refine wpList_load_box (by rfl) 24 _ (by rfl) (w.heap.size + 1 + 1) 0 (by rfl) 24 _ X2'.out 2 _ Tryz.underlying24 (by rfl) (by kernel_rfl) [.string ⟨#[]⟩, .slice none 0 0] (by rfl) (by rfl) ?_)
      | (refine wpList_store_box (by rfl) 24 _ _ (by rfl) w.heap.size 0 #[.string ⟨#[]⟩, .slice none 0 0] (by rfl) (by rfl) 24 _ X0'.out (by kernel_rfl) (by exact Nat.le_of_ble_eq_true rfl) (by intro u hu; simp at hu; rcases hu with rfl | rfl <;> rfl) ?_; intro w5 hb5 hg5))
    have hb6 : w5.heap[w.heap.size]? = some (.cells #[.string ⟨#[]⟩, .slice none 0 0] 24 (0, 0)) := by simpa [putAt] using hb5
    refine bodyPost_ret (results_box2 Tryz.results54 _ _ w.heap.size 24 _ _ (by rfl) hb6 Tryz.underlying24 (by rfl) (by kernel_rfl) _ (by rfl)) (by rfl) ?_
    have hr := readDef_1 (l := l) (by rw [HER.out]; exact H0.out)
    refine ⟨.zero, er, none, 0, by rw [hr], by rw [hr, HER.out], rfl, StepsAt.nil_ _ _, ?_⟩
    exact Below.trans HLW.out ((Below.refl _ _).grown hg5 (Below.size HLW.out) fun k hk => by have := Option.some.inj hk; omega)
end Go.Proofs.YtehiaeihkdfclaaGreatDoor
/- The walks over ReadOp, ReadDef. -/
namespace Go.Proofs.YtehiaeihkdfclaaGreatDoor
open Go.RowKit

set_option maxHeartbeats 2000000 in
set_option maxRecDepth 100000 in
theorem readOp_any {w : World} {A : Option Addr} {n c : Nat} {l : List Nat} (hl : Holds w w.heap.size A n l) (hn : n ≤ 950000) (hc : n ≤ c) :
    Calls Tryz.prog 19 #[.slice A n c] w (GotOp w (readOp l)) := by
  have hL : Later w (w.alloc (.cells #[.int .i64 0, .int .i64 0, .int .i64 0, .string ⟨#[]⟩, .slice none 0 0, .int .i64 0, .int .i64 0, .int .i64 0, .bool false, .bool false] 26 (0, 0))) := Later.alloc _ _
  have C := hide (readgoodOp_any ((hl.below hL).more (Below.size hL)) hn hc)
  have HX : Hid ((w.alloc (.cells #[.int .i64 0, .int .i64 0, .int .i64 0, .string ⟨#[]⟩, .slice none 0 0, .int .i64 0, .int .i64 0, .int .i64 0, .bool false, .bool false] 26 (0, 0))).heap[w.heap.size]? = some (.cells #[.int .i64 0, .int .i64 0, .int .i64 0, .string ⟨#[]⟩, .slice none 0 0, .int .i64 0, .int .i64 0, .int .i64 0, .bool false, .bool false] 26 (0, 0))) := heap_alloc_new _ _
  have HL := hide hL
  have HZ : Hid ((w.alloc (.cells #[.int .i64 0, .int .i64 0, .int .i64 0, .string ⟨#[]⟩, .slice none 0 0, .int .i64 0, .int .i64 0, .int .i64 0, .bool false, .bool false] 26 (0, 0))).heap.size = w.heap.size + 1) := World.size_alloc _ _
  clear hl hn hc hL
  go_enter Tryz.func19, Tryz.ntmps19
  go_wp2_with (fail)
  refine C.out.mono ?_
  rintro e w1 ⟨x, er, sA, sc, hx, her, rfl, hs, l1⟩
  have X1 := hide ((Below.block l1 _ (lt_of_block HX.out)).trans HX.out)
  have HXE := hide hx
  have HER := hide her
  have HS := hide hs
  have HL1 := hide (HL.out.trans l1)
  clear hx her hs l1 C
  go_wp2_with (refine wpList_store_box (by rfl) 26 _ _ (by rfl) w.heap.size 0 #[.int .i64 x.kind, .int .i64 x.client, .int .i64 x.request, .string x.name, .slice sA x.steps.length sc, .int .i64 x.saga, .int .i64 x.step, .int .i64 x.try_, .bool x.back, .bool x.good] (by rfl) (by rfl) 26 _ X1.out (by kernel_rfl) (by exact Nat.le_of_ble_eq_true rfl) (by intro u hu; simp at hu; rcases hu with rfl | rfl | rfl | rfl | rfl | rfl | rfl | rfl | rfl | rfl <;> rfl) ?_; intro w5 hb5 hg5)
  have hb6 : w5.heap[w.heap.size]? = some (.cells #[.int .i64 x.kind, .int .i64 x.client, .int .i64 x.request, .string x.name, .slice sA x.steps.length sc, .int .i64 x.saga, .int .i64 x.step, .int .i64 x.try_, .bool x.back, .bool x.good] 26 (0, 0)) := by simpa [putAt] using hb5
  refine bodyPost_ret (results_box2 Tryz.results19 _ _ w.heap.size 26 _ _ (by rfl) hb6 Tryz.underlying26 (by rfl) (by kernel_rfl) _ (by rfl)) (by rfl) ?_
  refine ⟨x, er, sA, sc, HXE.out, HER.out, rfl, ?_, ?_⟩
  · exact (HS.out.kept (Kept.of_grown hg5 fun g hg h => by have := Option.some.inj hg; have h2 := HZ.out; have h3 : (w.alloc (.cells #[.int .i64 0, .int .i64 0, .int .i64 0, .string ⟨#[]⟩, .slice none 0 0, .int .i64 0, .int .i64 0, .int .i64 0, .bool false, .bool false] 26 (0, 0))).heap.size ≤ g := h; omega)).mono fun i _ h => by have h2 := HZ.out; have h3 : (w.alloc (.cells #[.int .i64 0, .int .i64 0, .int .i64 0, .string ⟨#[]⟩, .slice none 0 0, .int .i64 0, .int .i64 0, .int .i64 0, .bool false, .bool false] 26 (0, 0))).heap.size ≤ i := h; show _ ≤ i; omega
  · exact Below.trans HL1.out ((Below.refl _ _).grown hg5 (Below.size HL1.out) fun k hk => by have := Option.some.inj hk; omega)

set_option maxHeartbeats 2000000 in
set_option maxRecDepth 100000 in
theorem readDef_any {w : World} {A : Option Addr} {n c : Nat} {l : List Nat} (hl : Holds w w.heap.size A n l) (hn : n ≤ 950000) (hc : n ≤ c) :
    Calls Tryz.prog 21 #[.slice A n c] w (GotDef w (readDef l)) := by
  have hL : Later w (w.alloc (.cells #[.string ⟨#[]⟩, .slice none 0 0] 24 (0, 0))) := Later.alloc _ _
  have C := hide (readgoodDef_any ((hl.below hL).more (Below.size hL)) hn hc)
  have HX : Hid ((w.alloc (.cells #[.string ⟨#[]⟩, .slice none 0 0] 24 (0, 0))).heap[w.heap.size]? = some (.cells #[.string ⟨#[]⟩, .slice none 0 0] 24 (0, 0))) := heap_alloc_new _ _
  have HL := hide hL
  have HZ : Hid ((w.alloc (.cells #[.string ⟨#[]⟩, .slice none 0 0] 24 (0, 0))).heap.size = w.heap.size + 1) := World.size_alloc _ _
  clear hl hn hc hL
  go_enter Tryz.func21, Tryz.ntmps21
  go_wp2_with (fail)
  refine C.out.mono ?_
  rintro e w1 ⟨x, er, sA, sc, hx, her, rfl, hs, l1⟩
  have X1 := hide ((Below.block l1 _ (lt_of_block HX.out)).trans HX.out)
  have HXE := hide hx
  have HER := hide her
  have HS := hide hs
  have HL1 := hide (HL.out.trans l1)
  clear hx her hs l1 C
  go_wp2_with (refine wpList_store_box (by rfl) 24 _ _ (by rfl) w.heap.size 0 #[.string x.name, .slice sA x.steps.length sc] (by rfl) (by rfl) 24 _ X1.out (by kernel_rfl) (by exact Nat.le_of_ble_eq_true rfl) (by intro u hu; simp at hu; rcases hu with rfl | rfl <;> rfl) ?_; intro w5 hb5 hg5)
  have hb6 : w5.heap[w.heap.size]? = some (.cells #[.string x.name, .slice sA x.steps.length sc] 24 (0, 0)) := by simpa [putAt] using hb5
  refine bodyPost_ret (results_box2 Tryz.results21 _ _ w.heap.size 24 _ _ (by rfl) hb6 Tryz.underlying24 (by rfl) (by kernel_rfl) _ (by rfl)) (by rfl) ?_
  refine ⟨x, er, sA, sc, HXE.out, HER.out, rfl, ?_, ?_⟩
  · exact (HS.out.kept (Kept.of_grown hg5 fun g hg h => by have := Option.some.inj hg; have h2 := HZ.out; have h3 : (w.alloc (.cells #[.string ⟨#[]⟩, .slice none 0 0] 24 (0, 0))).heap.size ≤ g := h; omega)).mono fun i _ h => by have h2 := HZ.out; have h3 : (w.alloc (.cells #[.string ⟨#[]⟩, .slice none 0 0] 24 (0, 0))).heap.size ≤ i := h; show _ ≤ i; omega
  · exact Below.trans HL1.out ((Below.refl _ _).grown hg5 (Below.size HL1.out) fun k hk => by have := Option.some.inj hk; omega)
end Go.Proofs.YtehiaeihkdfclaaGreatDoor
/- The walk over envelope's Open. -/
namespace Go.Proofs.YtehiaeihkdfclaaGreatDoor
open Go.RowKit

/-- Up to the k-th place. -/
theorem cut_to (A : Option Addr) (n c k : Nat) (hc : k ≤ c) : ∃ A' : Option Addr, (¬ c = 0 → A' = A.map (·.add 0)) ∧
    ∀ w, (Instr.slice 38 (.slice A n c) none (some (.int .i64 (k : Int))) none).run Tryz.prog w = .ok (.slice A' k c) w := by
  refine ⟨if c = 0 then A else A.map (·.add 0), fun h => by rw [if_neg h], fun w => ?_⟩
  rw [run_slice_h w _ _ _ _ sliceU8 .i64 _ (by omega) (by omega), elemU8, sizeU8]
  cases A with
  | none => simp [Result.andThen, sliced]
  | some a =>
    by_cases h : c = 0
    · subst h
      simp [Result.andThen, sliced]
    · simp [Result.andThen, sliced, h]
theorem Holds.to {w : World} {B n cap h : Nat} {A A' : Option Addr} {l : List Nat} (H : Holds w B A n l) (hh : h ≤ n) (hc : n ≤ cap) (hA' : ¬ cap = 0 → A' = A.map (·.add 0)) : Holds w B A' h (l.take h) := by
  simpa using H.mid (k := 0) (Nat.zero_le h) hh hc hA'
/-- What Open gives of l. -/
def OpenIs (w : World) (l : List Nat) (e : Ending) (w' : World) : Prop :=
  ∃ A n c, e = .returned (.tuple #[.slice A n c, .int .i64 ((opn l).2.1 : Nat), .int .i64 ((opn l).2.2 : Nat)]) ∧ Holds w' w'.heap.size A n (opn l).1 ∧ n ≤ c ∧ Later w w'

theorem bounds_is (A : Option Addr) (n c B f t er : Nat) (l : List Nat) (w : World) (hl : Holds w B A n l) (hn : n ≤ 1099511627000) (hc : n ≤ c) (h : bnd l = (f, t, er)) :
    Calls Tryz.prog 84 #[.slice A n c] w fun e w' => e = .returned (.tuple #[.int .i64 f, .int .i64 t, .int .i64 er]) ∧ w = w' :=
  (bounds_any A n c B l w hl hn hc).mono fun e w' ⟨h1, h2⟩ => by rw [h] at h1; exact ⟨h1, h2⟩
theorem equal_is (A A2 : Option Addr) (n c m c2 B B2 : Nat) (l l2 : List Nat) (d : Bool) (w : World) (hl : Holds w B A n l) (h2 : Holds w B2 A2 m l2) (hd : d = decide (l = l2)) :
    Calls Tryz.prog 45 #[.slice A n c, .slice A2 m c2] w fun e w' => e = .returned (.bool d) ∧ w = w' := by
  rw [hd]
  exact equal_any A A2 n c m c2 B B2 l l2 w hl h2
theorem fours_any (S : Nat) (w : World) (hS : S < 4294967296) : Calls Tryz.prog 63 #[.slice none 0 0, .int .u32 S] w (NewBytes w (four S)) :=
  (putsum_any w.heap.size 0 S _ [] w hS (by omega) (Nat.le_refl _) (World.ownsRow_nil _ _ _ _)).mono fun e w' ⟨v, he, ho, hg⟩ => by
    subst he
    refine newBytes_of (n := 4) (by simpa using ho) (four_small S) ?_
    exact hg.below (base := w.heap.size) (World.ownsRow_nil w w.heap.size 5 1) (Nat.le_refl _)

theorem opn_1 {l : List Nat} {f t e : Nat} (h : bnd l = (f, t, e)) (he : e ≠ 0) : opn l = ([], 0, e) := by
  unfold opn; rw [h, if_pos he]
theorem opn_2 {l : List Nat} {f t e : Nat} (h : bnd l = (f, t, e)) (he : ¬ e ≠ 0) (hs : ¬ (l.drop t).take 4 = four (sum (l.take t))) : opn l = ([], 0, 6) := by
  unfold opn; rw [h, if_neg he, if_pos hs]
theorem opn_3 {l : List Nat} {f t e : Nat} (h : bnd l = (f, t, e)) (he : ¬ e ≠ 0) (hs : (l.drop t).take 4 = four (sum (l.take t))) : opn l = ((l.drop f).take (t - f), t + 4, 0) := by
  unfold opn; rw [h, if_neg he, if_neg (fun hh => hh hs)]

set_option maxHeartbeats 4000000 in
set_option maxRecDepth 100000 in
theorem open_any (A : Option Addr) (n c : Nat) (l : List Nat) (w : World) (hl : Holds w w.heap.size A n l) (hn : n ≤ 1099511627000) (hc : n ≤ c) (hT : Tab w) :
    Calls Tryz.prog 43 #[.slice A n c] w (OpenIs w l) := by
  obtain ⟨f, t, er, hb⟩ : ∃ f t er, bnd l = (f, t, er) := ⟨_, _, _, rfl⟩
  have Hl := hide hl
  have HT := hide hT
  have hlen := hl.1
  have hbs := hide (bounds_is A n c _ f t er l w hl hn hc hb)
  have hfit := bnd_fits l
  rw [hb] at hfit
  simp only at hfit
  have Hb := hide hb
  clear hl hT hb
  by_cases he : er ≠ 0
  · have ho := opn_1 Hb.out he
    have he2 : ((er : Int) == 0) = false := by simp; omega
    have Ho := hide ho
    clear ho
    go_enter Tryz.func43, Tryz.ntmps43
    go_wp2_with (fail)
    refine hbs.out.mono ?_
    rintro e w1 ⟨rfl, rfl⟩
    go_wp2
    go_ret3
    refine ⟨none, 0, 0, ?_, ?_, Nat.le_refl _, Later.refl _⟩
    · rw [Ho.out]
      rfl
    · rw [Ho.out]
      exact Holds.nil_ _ _
  · obtain ⟨hf1, hft, htn⟩ := hfit (by omega)
    obtain ⟨E, hE⟩ : ∃ E, E = t + 4 := ⟨_, rfl⟩
    have hEi : (t : Int) + 4 = (E : Int) := by omega
    obtain ⟨A', hA', hcut⟩ := cut_mid A n c t E (by omega) (by omega)
    obtain ⟨A2, hA2, hcut2⟩ := cut_to A n c t (by omega)
    have hEn : E ≤ n := by omega
    have h1 := Hl.out.mid (k := t) (h := E) (cap := c) (by omega) (by omega) hc hA'
    have hE4 : E - t = 4 := by omega
    rw [hE4] at h1 hcut
    have h2 := Hl.out.to (h := t) (by omega) hc hA2
    have H1 := hide h1
    have H2 := hide h2
    have hq32 : sum (l.take t) < 4294967296 := sum_lt h2.2.1
    obtain ⟨q, hq⟩ : ∃ q, q = sum (l.take t) := ⟨_, rfl⟩
    rw [← hq] at hq32
    obtain ⟨d, hd⟩ : ∃ d, d = decide ((l.drop t).take 4 = four q) := ⟨_, rfl⟩
    obtain ⟨A3, hA3, hcut3⟩ := cut_mid A n c f t (by omega) (by omega)
    have h3 := Hl.out.mid (k := f) (h := t) (cap := c) (by omega) (by omega) hc hA3
    have H3 := hide h3
    have her : er = 0 := by omega
    subst her
    have Hq := hide hq
    have Hd := hide hd
    have HA' := hide hA'
    have HA3 := hide hA3
    have HA2 := hide hA2
    have HE := hide hE
    have L0 := hide (Later.drew w)
    have Hfit := hide hfit
    have He := hide he
    clear h1 h2 h3 hq hd hA' hA3 hA2 hE hfit hlen he
    go_enter Tryz.func43, Tryz.ntmps43
    go_wp2_with (fail)
    refine hbs.out.mono ?_
    rintro e w1 ⟨rfl, rfl⟩
    go_wp2
    refine wp_region_L (by kernel_rfl) ?_
    refine wpAnyL_take (i := 0) (d := some 20) (v := ?va0) rfl rfl (by kernel_rfl) (by kernel_rfl) (by kernel_rfl) (fun _ _ _ h => h) (by rfl) ?ya0 ?_
    case ya0 => (intro w' hw'; go_simp; try (with_reducible rfl))
    simp only [Act.put, List.setIfInBounds_toArray, List.set_cons_zero, List.set_cons_succ]
    refine wpAnyL_take (i := 1) (d := some 21) (v := ?va1) rfl rfl (by kernel_rfl) (by kernel_rfl) (by kernel_rfl) (fun _ _ _ h => h) (by rfl) ?ya1 ?_
    case ya1 => (intro w' hw'; go_simp; try (with_reducible rfl))
    simp only [Act.put, List.setIfInBounds_toArray, List.set_cons_zero, List.set_cons_succ]
    refine wpAnyL_take (i := 2) (d := some 22) (v := ?va2) rfl rfl (by kernel_rfl) (by kernel_rfl) (by kernel_rfl) (fun _ _ _ h => h) (by rfl) ?ya2 ?_
    case ya2 => (intro w' hw'; go_simp; try (with_reducible rfl))
    simp only [Act.put, List.setIfInBounds_toArray, List.set_cons_zero, List.set_cons_succ]
    refine wpAnyL_take (i := 3) (d := some 23) (v := ?va3) rfl rfl (by kernel_rfl) (by kernel_rfl) (by kernel_rfl) (fun _ _ _ h => h) (by rfl) ?ya3 ?_
    case ya3 => (intro w' hw'; go_simp; try (with_reducible rfl))
    simp only [Act.put, List.setIfInBounds_toArray, List.set_cons_zero, List.set_cons_succ]
    refine wpAnyL_take (i := 4) (d := some 24) (v := ?va4) rfl rfl (by kernel_rfl) (by kernel_rfl) (by kernel_rfl) (fun _ _ _ h => h) (by rfl) ?ya4 ?_
    case ya4 => (intro w' hw'; go_simp; try (with_reducible rfl))
    simp only [Act.put, List.setIfInBounds_toArray, List.set_cons_zero, List.set_cons_succ]
    refine wpAnyL_take (i := 5) (d := some 25) (v := ?va5) rfl rfl (by kernel_rfl) (by kernel_rfl) (by kernel_rfl) (fun _ _ _ h => h) (by rfl) ?ya5 ?_
    case ya5 => (intro w' hw'; go_simp; try (with_reducible rfl))
    simp only [Act.put, List.setIfInBounds_toArray, List.set_cons_zero, List.set_cons_succ]
    refine wpAnyL_take (i := 6) (d := some 26) (v := ?va6) rfl rfl (by kernel_rfl) (by kernel_rfl) (by kernel_rfl) (fun _ _ _ h => h) (by rfl) ?ya6 ?_
    case ya6 => (intro w' hw'; go_simp; try (with_reducible rfl))
    simp only [Act.put, List.setIfInBounds_toArray, List.set_cons_zero, List.set_cons_succ]
    refine wpAnyL_only (i := 7) rfl (by kernel_rfl) (by rfl) fun K hK => ?_
    go_simp
    refine (sum_any A2 t c _ _ _ (H2.out.later L0.out) (by omega) (HT.out.later L0.out)).mono ?_
    rintro e w2 ⟨rfl, rfl⟩
    rw [← Hq.out]
    refine hK.out _ _ (Later.refl _) ?_
    clear hK K
    try simp only [Act.put, List.setIfInBounds_toArray, List.set_cons_zero, List.set_cons_succ]
    refine wpAnyL_only (i := 8) rfl (by kernel_rfl) (by rfl) fun K hK => ?_
    go_simp
    refine (fours_any q _ hq32).mono ?_
    rintro e w3 ⟨A4, n4, c4, rfl, _, h4, _, b4⟩
    have H4 := hide h4
    have L3 := hide (L0.out.trans b4)
    refine hK.out _ _ b4 ?_
    clear h4 b4
    clear hK K
    try simp only [Act.put, List.setIfInBounds_toArray, List.set_cons_zero, List.set_cons_succ]
    refine wpAnyL_only (i := 9) rfl (by kernel_rfl) (by rfl) fun K hK => ?_
    go_simp
    refine (equal_is A' A4 4 (c - t) n4 c4 _ _ _ _ d w3 (H1.out.later L3.out) H4.out Hd.out).mono ?_
    rintro e w4 ⟨rfl, rfl⟩
    refine hK.out _ _ (Later.refl _) ?_
    clear hK K
    try simp only [Act.put, List.setIfInBounds_toArray, List.set_cons_zero, List.set_cons_succ]
    refine wpAnyL_take (i := 10) (d := some 30) (v := ?va10) rfl rfl (by kernel_rfl) (by kernel_rfl) (by kernel_rfl) (fun _ _ _ h => h) (by rfl) ?ya10 ?_
    case ya10 => (intro w' hw'; go_simp; try (with_reducible rfl))
    simp only [Act.put, List.setIfInBounds_toArray, List.set_cons_zero, List.set_cons_succ]
    refine wpAnyL_done (by kernel_rfl) ?_ _
    cases d with
    | false =>
      have ho := opn_2 Hb.out (by simp) (by rw [← Hq.out]; exact of_decide_eq_false Hd.out.symm)
      have Ho := hide ho
      clear ho
      go_wp2
      go_ret3
      refine ⟨none, 0, 0, ?_, ?_, Nat.le_refl _, L3.out⟩
      · rw [Ho.out]
        rfl
      · rw [Ho.out]
        exact Holds.nil_ _ _
    | true =>
      have ho := opn_3 Hb.out (by simp) (by rw [← Hq.out]; exact of_decide_eq_true Hd.out.symm)
      have Ho := hide ho
      clear ho
      go_wp2_with (fail)
      refine (clone_any A3 (t - f) (c - f) _ _ _ (H3.out.later L3.out) (Nat.le_refl _) (by omega)).mono ?_
      rintro e w5 ⟨A5, n5, c5, rfl, _, h5, hc5, b5⟩
      have H5 := hide h5
      have L5 := hide (L3.out.trans b5)
      clear h5 b5
      go_wp2
      go_ret3
      refine ⟨A5, n5, c5, ?_, ?_, hc5, L5.out⟩
      · rw [Ho.out]
        simp only
        rw [← HE.out]
        rfl
      · rw [Ho.out]
        exact H5.out
end Go.Proofs.YtehiaeihkdfclaaGreatDoor
/- A message in a block of its own, to be read into. -/
namespace Go.Proofs.YtehiaeihkdfclaaGreatDoor
open Go.RowKit

/-- Operations of an object's own, their steps beside the steps of sv. -/
structure OwnOps (P : Nat → Prop) (w : World) (sv ov : Value) (ps : List (OpD × Value)) : Prop where
  row : w.ownsRow 0 26 10 ov ps.length (ps.flatMap fun p => p.1.cells p.2)
  own : ∀ q, ov.ownBlock = some q → P q
  each : ∀ p ∈ ps, p.1.wf ∧ OwnSteps P w p.2 p.1.steps ∧ ∀ q, p.2.ownBlock = some q → sv.ownBlock ≠ some q
theorem OwnOps.mono {P Q : Nat → Prop} {w : World} {sv ov : Value} {ps : List (OpD × Value)} (h : OwnOps P w sv ov ps) (hq : ∀ k, k < w.heap.size → P k → Q k) : OwnOps Q w sv ov ps :=
  ⟨h.row, fun q e => hq q (own_lt h.row e).1 (h.own q e), fun p hp => ⟨(h.each p hp).1, (h.each p hp).2.1.mono hq, (h.each p hp).2.2⟩⟩
theorem OwnOps.blk {P : Nat → Prop} {w w' : World} {sv ov : Value} {ps : List (OpD × Value)} (h : OwnOps P w sv ov ps) (hk : ∀ q, ov.ownBlock = some q → w'.heap[q]? = w.heap[q]?) (hs : ∀ p ∈ ps, ∀ q, p.2.ownBlock = some q → w'.heap[q]? = w.heap[q]?) : OwnOps P w' sv ov ps :=
  ⟨own_blk h.row hk, h.own, fun p hp => ⟨(h.each p hp).1, (h.each p hp).2.1.blk (hs p hp), (h.each p hp).2.2⟩⟩
theorem OwnOps.keep {P : Nat → Prop} {w w' : World} {sv ov : Value} {ps : List (OpD × Value)} (h : OwnOps P w sv ov ps) (hk : Kept P w w') : OwnOps P w' sv ov ps :=
  h.blk (fun q e => hk.2 q (own_lt h.row e).1 (h.own q e)) fun p hp q e => hk.2 q (own_lt (h.each p hp).2.1.1 e).1 ((h.each p hp).2.1.2.1 q e)
/-- Numbers of an object's own. -/
def OwnInts (P : Nat → Prop) (w : World) (iv : Value) (l : List Int) : Prop := w.ownsRow 0 3 1 iv l.length (l.map fun x => .int .i64 x) ∧ ∀ q, iv.ownBlock = some q → P q
theorem OwnInts.mono {P Q : Nat → Prop} {w : World} {iv : Value} {l : List Int} (h : OwnInts P w iv l) (hq : ∀ k, k < w.heap.size → P k → Q k) : OwnInts Q w iv l := ⟨h.1, fun q e => hq q (own_lt h.1 e).1 (h.2 q e)⟩
theorem OwnInts.blk {P : Nat → Prop} {w w' : World} {iv : Value} {l : List Int} (h : OwnInts P w iv l) (hk : ∀ q, iv.ownBlock = some q → w'.heap[q]? = w.heap[q]?) : OwnInts P w' iv l := ⟨own_blk h.1 hk, h.2⟩
theorem OwnInts.keep {P : Nat → Prop} {w w' : World} {iv : Value} {l : List Int} (h : OwnInts P w iv l) (hk : Kept P w w') : OwnInts P w' iv l := h.blk fun q e => hk.2 q (own_lt h.1 e).1 (h.2 q e)

/-- Blocks of other types. -/
theorem own_ne {w : World} {b1 b2 e1 e2 k1 k2 n1 n2 q : Nat} {v1 v2 : Value} {xs1 xs2 : List Value} (h1 : w.ownsRow b1 e1 k1 v1 n1 xs1) (h2 : w.ownsRow b2 e2 k2 v2 n2 xs2) (hne : e1 ≠ e2) (hq : v1.ownBlock = some q) : v2.ownBlock ≠ some q := fun hq2 => by
  obtain ⟨_, c1, g1⟩ := own_lt h1 hq
  obtain ⟨_, c2, g2⟩ := own_lt h2 hq2
  rw [g1] at g2
  injection g2 with g2
  injection g2 with _ g3
  exact hne g3

/-- A message in the block g. -/
structure MsgObj (g : Nat) (P : Nat → Prop) (m : MsgD) (w : World) (sv ov iv : Value) (ps : List (OpD × Value)) : Prop where
  here : P g
  nums : m.nums
  name : opNum m.op
  box : w.heap[g]? = some (.cells (m.cells sv ov iv).toArray 35 (0, 0))
  steps : OwnSteps P w sv m.op.steps
  ops : OwnOps P w sv ov ps
  list : ps.map (·.1) = m.ops
  incs : OwnInts P w iv m.incs
def InvMsg (g : Nat) (P : Nat → Prop) (m : MsgD) (w : World) : Prop := ∃ sv ov iv ps, MsgObj g P m w sv ov iv ps
section
variable {g : Nat} {P : Nat → Prop} {m : MsgD} {w : World} {sv ov iv : Value} {ps : List (OpD × Value)}
theorem MsgObj.svg (h : MsgObj g P m w sv ov iv ps) {q : Nat} (e : sv.ownBlock = some q) : q ≠ g := fun he => own_not h.steps.1 h.box (by decide) (he ▸ e)
theorem MsgObj.ovg (h : MsgObj g P m w sv ov iv ps) {q : Nat} (e : ov.ownBlock = some q) : q ≠ g := fun he => own_not h.ops.row h.box (by decide) (he ▸ e)
theorem MsgObj.ivg (h : MsgObj g P m w sv ov iv ps) {q : Nat} (e : iv.ownBlock = some q) : q ≠ g := fun he => own_not h.incs.1 h.box (by decide) (he ▸ e)
theorem MsgObj.psg (h : MsgObj g P m w sv ov iv ps) {p : OpD × Value} (hp : p ∈ ps) {q : Nat} (e : p.2.ownBlock = some q) : q ≠ g := fun he => own_not (h.ops.each p hp).2.1.1 h.box (by decide) (he ▸ e)
/-- One cell of it, no list's. -/
theorem MsgObj.set (h : MsgObj g P m w sv ov iv ps) (i : Nat) (v : Value) (m' : MsgD) (hc : (m.cells sv ov iv).toArray.setIfInBounds i v = (m'.cells sv ov iv).toArray) (hn : m'.nums) (ho : opNum m'.op) (h1 : m'.op.steps = m.op.steps) (h2 : m'.ops = m.ops) (h3 : m'.incs = m.incs) :
    InvMsg g P m' (w.setCell ⟨g, i, none⟩ v) :=
  ⟨sv, ov, iv, ps, h.here, hn, ho, box_set h.box _ _ hc, by rw [h1]; exact h.steps.blk fun q e => set_other (h.svg e), h.ops.blk (fun q e => set_other (h.ovg e)) fun p hp q e => set_other (h.psg hp e), by rw [h2]; exact h.list, by rw [h3]; exact h.incs.blk fun q e => set_other (h.ivg e)⟩
end
theorem invmsg_ok (g : Nat) : InvOK (InvMsg g) :=
  ⟨fun _ _ _ _ h ⟨sv, ov, iv, ps, o⟩ => ⟨sv, ov, iv, ps, h g (lt_of_block o.box) o.here, o.nums, o.name, o.box, o.steps.mono h, o.ops.mono h, o.list, o.incs.mono h⟩,
   fun _ _ _ _ hk ⟨sv, ov, iv, ps, o⟩ => ⟨sv, ov, iv, ps, o.here, o.nums, o.name, (hk.2 g (lt_of_block o.box) o.here).trans o.box, o.steps.keep hk, o.ops.keep hk, o.list, o.incs.keep hk⟩⟩
theorem zero_nums : MsgD.zero.nums := ⟨i64_zero, i64_zero, i64_zero, i64_zero, i64_zero, i64_zero, i64_zero, i64_zero, i64_zero, i64_zero, i64_zero, i64_zero, i64_zero, i64_zero, i64_zero, i64_zero, i64_zero, i64_zero, by simp [MsgD.zero]⟩
theorem zero_opNum : opNum OpD.zero := ⟨i64_zero, i64_zero, i64_zero, Nat.zero_le _, i64_zero, i64_zero, i64_zero⟩
theorem invmsg_zero {g : Nat} {P : Nat → Prop} {w : World} (hp : P g) (h : w.heap[g]? = some (.cells (MsgD.zero.cells (.slice none 0 0) (.slice none 0 0) (.slice none 0 0)).toArray 35 (0, 0))) : InvMsg g P .zero w :=
  ⟨_, _, _, [], hp, zero_nums, zero_opNum, h, OwnSteps.nil_ _ _, ⟨World.ownsRow_nil _ _ _ _, fun q e => by simp [Value.ownBlock] at e, by simp⟩, rfl, World.ownsRow_nil _ _ _ _, fun q e => by simp [Value.ownBlock] at e⟩
theorem invmsg_reply (g : Nat) : ReplyPl (InvMsg g) g 22 where
  rerr := fun _ _ _ ⟨_, _, _, _, b⟩ => ⟨b.here, lt_of_block b.box, ⟨_, box_at b.box 22 _ rfl⟩, box_free b.box _, fun _ hx => b.set _ _ _ rfl ⟨b.nums.kind, b.nums.src, b.nums.dst, b.nums.view, b.nums.last, b.nums.num, b.nums.commit, b.nums.nonce, b.nums.request, hx, b.nums.rsaga, b.nums.rstate, b.nums.rstep, b.nums.cview, b.nums.cstub, b.nums.csaga, b.nums.cstep, b.nums.ctry, b.nums.incs⟩ b.name rfl rfl rfl⟩
  rsaga := fun _ _ _ ⟨_, _, _, _, b⟩ => ⟨b.here, lt_of_block b.box, ⟨_, box_at b.box 23 _ rfl⟩, box_free b.box _, fun _ hx => b.set _ _ _ rfl ⟨b.nums.kind, b.nums.src, b.nums.dst, b.nums.view, b.nums.last, b.nums.num, b.nums.commit, b.nums.nonce, b.nums.request, b.nums.rerr, hx, b.nums.rstate, b.nums.rstep, b.nums.cview, b.nums.cstub, b.nums.csaga, b.nums.cstep, b.nums.ctry, b.nums.incs⟩ b.name rfl rfl rfl⟩
  rstate := fun _ _ _ ⟨_, _, _, _, b⟩ => ⟨b.here, lt_of_block b.box, ⟨_, box_at b.box 24 _ rfl⟩, box_free b.box _, fun _ hx => b.set _ _ _ rfl ⟨b.nums.kind, b.nums.src, b.nums.dst, b.nums.view, b.nums.last, b.nums.num, b.nums.commit, b.nums.nonce, b.nums.request, b.nums.rerr, b.nums.rsaga, hx, b.nums.rstep, b.nums.cview, b.nums.cstub, b.nums.csaga, b.nums.cstep, b.nums.ctry, b.nums.incs⟩ b.name rfl rfl rfl⟩
  rstep := fun _ _ _ ⟨_, _, _, _, b⟩ => ⟨b.here, lt_of_block b.box, ⟨_, box_at b.box 25 _ rfl⟩, box_free b.box _, fun _ hx => b.set _ _ _ rfl ⟨b.nums.kind, b.nums.src, b.nums.dst, b.nums.view, b.nums.last, b.nums.num, b.nums.commit, b.nums.nonce, b.nums.request, b.nums.rerr, b.nums.rsaga, b.nums.rstate, hx, b.nums.cview, b.nums.cstub, b.nums.csaga, b.nums.cstep, b.nums.ctry, b.nums.incs⟩ b.name rfl rfl rfl⟩
theorem invmsg_cmd (g : Nat) : CmdPl (InvMsg g) g 26 where
  cview := fun _ _ _ ⟨_, _, _, _, b⟩ => ⟨b.here, lt_of_block b.box, ⟨_, box_at b.box 26 _ rfl⟩, box_free b.box _, fun _ hx => b.set _ _ _ rfl ⟨b.nums.kind, b.nums.src, b.nums.dst, b.nums.view, b.nums.last, b.nums.num, b.nums.commit, b.nums.nonce, b.nums.request, b.nums.rerr, b.nums.rsaga, b.nums.rstate, b.nums.rstep, hx, b.nums.cstub, b.nums.csaga, b.nums.cstep, b.nums.ctry, b.nums.incs⟩ b.name rfl rfl rfl⟩
  cstub := fun _ _ _ ⟨_, _, _, _, b⟩ => ⟨b.here, lt_of_block b.box, ⟨_, box_at b.box 27 _ rfl⟩, box_free b.box _, fun _ hx => b.set _ _ _ rfl ⟨b.nums.kind, b.nums.src, b.nums.dst, b.nums.view, b.nums.last, b.nums.num, b.nums.commit, b.nums.nonce, b.nums.request, b.nums.rerr, b.nums.rsaga, b.nums.rstate, b.nums.rstep, b.nums.cview, hx, b.nums.csaga, b.nums.cstep, b.nums.ctry, b.nums.incs⟩ b.name rfl rfl rfl⟩
  csaga := fun _ _ _ ⟨_, _, _, _, b⟩ => ⟨b.here, lt_of_block b.box, ⟨_, box_at b.box 28 _ rfl⟩, box_free b.box _, fun _ hx => b.set _ _ _ rfl ⟨b.nums.kind, b.nums.src, b.nums.dst, b.nums.view, b.nums.last, b.nums.num, b.nums.commit, b.nums.nonce, b.nums.request, b.nums.rerr, b.nums.rsaga, b.nums.rstate, b.nums.rstep, b.nums.cview, b.nums.cstub, hx, b.nums.cstep, b.nums.ctry, b.nums.incs⟩ b.name rfl rfl rfl⟩
  cstep := fun _ _ _ ⟨_, _, _, _, b⟩ => ⟨b.here, lt_of_block b.box, ⟨_, box_at b.box 29 _ rfl⟩, box_free b.box _, fun _ hx => b.set _ _ _ rfl ⟨b.nums.kind, b.nums.src, b.nums.dst, b.nums.view, b.nums.last, b.nums.num, b.nums.commit, b.nums.nonce, b.nums.request, b.nums.rerr, b.nums.rsaga, b.nums.rstate, b.nums.rstep, b.nums.cview, b.nums.cstub, b.nums.csaga, hx, b.nums.ctry, b.nums.incs⟩ b.name rfl rfl rfl⟩
  ctry := fun _ _ _ ⟨_, _, _, _, b⟩ => ⟨b.here, lt_of_block b.box, ⟨_, box_at b.box 30 _ rfl⟩, box_free b.box _, fun _ hx => b.set _ _ _ rfl ⟨b.nums.kind, b.nums.src, b.nums.dst, b.nums.view, b.nums.last, b.nums.num, b.nums.commit, b.nums.nonce, b.nums.request, b.nums.rerr, b.nums.rsaga, b.nums.rstate, b.nums.rstep, b.nums.cview, b.nums.cstub, b.nums.csaga, b.nums.cstep, hx, b.nums.incs⟩ b.name rfl rfl rfl⟩
  cback := fun _ _ _ ⟨_, _, _, _, b⟩ => ⟨b.here, lt_of_block b.box, ⟨_, box_at b.box 31 _ rfl⟩, box_free b.box _, fun _ => b.set _ _ _ rfl ⟨b.nums.kind, b.nums.src, b.nums.dst, b.nums.view, b.nums.last, b.nums.num, b.nums.commit, b.nums.nonce, b.nums.request, b.nums.rerr, b.nums.rsaga, b.nums.rstate, b.nums.rstep, b.nums.cview, b.nums.cstub, b.nums.csaga, b.nums.cstep, b.nums.ctry, b.nums.incs⟩ b.name rfl rfl rfl⟩

theorem own_grown {P : Nat → Prop} {w w2 w3 : World} {sv ov v : Value} {l : List StepD} (h : OwnSteps P w sv l) (hl : Later w w2) (hg : w2.grownBy w3 ov.ownBlock) (hv : v = ov) (hne : ∀ q, sv.ownBlock = some q → v.ownBlock ≠ some q) : OwnSteps P w3 sv l :=
  h.blk fun q e => (hg.block q (Nat.lt_of_lt_of_le (own_lt h.1 e).1 (Below.size hl)) (fun e2 => hne q e (by rw [hv]; exact e2.symm))).trans (Below.block hl q (own_lt h.1 e).1)
theorem blk_grown {w w2 w3 : World} {q : Nat} {r : Option Nat} (hl : Later w w2) (hg : w2.grownBy w3 r) (hq : q < w.heap.size) (hne : r ≠ some q) : w3.heap[q]? = w.heap[q]? :=
  (hg.block q (Nat.lt_of_lt_of_le hq (Below.size hl)) (fun e => hne e.symm)).trans (Below.block hl q hq)
set_option maxHeartbeats 1000000 in
theorem invmsg_steps (g : Nat) : RowPl (InvMsg g) msgSz 68 6 StepE g 16 fun m y => { m with op := { m.op with steps := m.op.steps ++ [y] } } :=
  fun P m w ⟨sv, ov, iv, ps, b⟩ hP2 => ⟨b.here, lt_of_block b.box, sv, _, _, box_at b.box 16 _ rfl, box_free b.box _, b.steps.1, by unfold msgSz; omega, fun q e => ⟨b.steps.2.1 q e, b.svg e⟩,
    fun w2 w3 v' y cells hl hg ho ha he => by
      have hgl := lt_of_block b.box
      have hbox := (blk_grown hl hg hgl (fun e => b.svg e rfl)).trans b.box
      have hn : v'.ownBlock ≠ some g := own_not ho hbox (by decide)
      have hov := fun q (e : ov.ownBlock = some q) => blk_grown hl hg (own_lt b.ops.row e).1 (own_ne b.ops.row b.steps.1 (by decide) e)
      have hiv := fun q (e : iv.ownBlock = some q) => blk_grown hl hg (own_lt b.incs.1 e).1 (own_ne b.incs.1 b.steps.1 (by decide) e)
      have hps := fun p (hp : p ∈ ps) q (e : p.2.ownBlock = some q) => blk_grown hl hg (own_lt (b.ops.each p hp).2.1.1 e).1 ((b.ops.each p hp).2.2 q e)
      refine ⟨v', ov, iv, ps, b.here, ⟨b.nums.kind, b.nums.src, b.nums.dst, b.nums.view, b.nums.last, b.nums.num, b.nums.commit, b.nums.nonce, b.nums.request, b.nums.rerr, b.nums.rsaga, b.nums.rstate, b.nums.rstep, b.nums.cview, b.nums.cstub, b.nums.csaga, b.nums.cstep, b.nums.ctry, b.nums.incs⟩, b.name, box_set hbox _ _ rfl, (b.steps.push hP2 hl ho ha he).blk fun q e => set_other (fun hq => hn (hq ▸ e)), ?_, b.list, b.incs.blk fun q e => (set_other (b.ivg e)).trans (hiv q e)⟩
      have h1 := b.ops.blk (w' := w3.setCell ⟨g, 16, none⟩ v') (fun q e => (set_other (b.ovg e)).trans (hov q e)) (fun p hp q e => (set_other (b.psg hp e)).trans (hps p hp q e))
      refine ⟨h1.row, h1.own, fun p hp => ⟨(h1.each p hp).1, (h1.each p hp).2.1, fun q e e2 => ?_⟩⟩
      rcases ha with ha | ha
      · exact (b.ops.each p hp).2.2 q e (ha ▸ e2)
      · rw [ha] at e2
        obtain rfl := Option.some.inj e2
        have h3 := (own_lt (b.ops.each p hp).2.1.1 e).1
        have h4 := Below.size hl
        omega⟩
set_option maxHeartbeats 1000000 in
theorem invmsg_ops (g : Nat) : RowPl (InvMsg g) msgSz 26 10 OpE g 32 fun m y => { m with ops := m.ops ++ [y] } :=
  fun P m w ⟨sv, ov, iv, ps, b⟩ hP2 => ⟨b.here, lt_of_block b.box, ov, _, _, box_at b.box 32 _ rfl, box_free b.box _, b.ops.row, by have h := congrArg List.length b.list; rw [List.length_map] at h; unfold msgSz; omega, fun q e => ⟨b.ops.own q e, b.ovg e⟩,
    fun w2 w3 v' y cells hl hg ho ha he => by
      obtain ⟨yv, rfl, hyn, hys⟩ := he
      have hgl := lt_of_block b.box
      have hbox := (blk_grown hl hg hgl (fun e => b.ovg e rfl)).trans b.box
      have hn : v'.ownBlock ≠ some g := own_not ho hbox (by decide)
      have hsv := fun q (e : sv.ownBlock = some q) => blk_grown hl hg (own_lt b.steps.1 e).1 (own_ne b.steps.1 b.ops.row (by decide) e)
      have hiv := fun q (e : iv.ownBlock = some q) => blk_grown hl hg (own_lt b.incs.1 e).1 (own_ne b.incs.1 b.ops.row (by decide) e)
      have hps := fun p (hp : p ∈ ps) q (e : p.2.ownBlock = some q) => blk_grown hl hg (own_lt (b.ops.each p hp).2.1.1 e).1 (own_ne (b.ops.each p hp).2.1.1 b.ops.row (by decide) e)
      have hyg : ∀ q, yv.ownBlock = some q → q ≠ g := fun q e hq => own_not hys.1 hbox (by decide) (hq ▸ e)
      refine ⟨sv, v', iv, ps ++ [(y, yv)], b.here, ⟨b.nums.kind, b.nums.src, b.nums.dst, b.nums.view, b.nums.last, b.nums.num, b.nums.commit, b.nums.nonce, b.nums.request, b.nums.rerr, b.nums.rsaga, b.nums.rstate, b.nums.rstep, b.nums.cview, b.nums.cstub, b.nums.csaga, b.nums.cstep, b.nums.ctry, b.nums.incs⟩, b.name, box_set hbox _ _ rfl, b.steps.blk fun q e => (set_other (b.svg e)).trans (hsv q e), ⟨?_, ?_, ?_⟩, by rw [List.map_append, b.list]; rfl, b.incs.blk fun q e => (set_other (b.ivg e)).trans (hiv q e)⟩
      · refine own_blk ?_ fun q e => set_other (fun hq => hn (hq ▸ e))
        rw [List.length_append, List.flatMap_append]
        simpa using ho
      · intro q e
        rcases ha with ha | ha
        · exact b.ops.own q (ha ▸ e)
        · rw [ha] at e
          obtain rfl := Option.some.inj e
          exact hP2 _ (Below.size hl)
      · intro p hp
        rcases List.mem_append.1 hp with hp | hp
        · exact ⟨(b.ops.each p hp).1, (b.ops.each p hp).2.1.blk fun q e => (set_other (b.psg hp e)).trans (hps p hp q e), (b.ops.each p hp).2.2⟩
        · obtain rfl : p = (y, yv) := by simpa using hp
          refine ⟨hyn, (hys.mono fun q _ h => hP2 q h).blk fun q e => set_other (hyg q e), fun q e e2 => ?_⟩
          have h3 := (own_lt b.steps.1 e2).1
          have h4 := hys.2.1 q e
          omega⟩
set_option maxHeartbeats 1000000 in
theorem invmsg_incs (g : Nat) : RowPl (InvMsg g) msgSz 3 1 IntE g 33 fun m y => { m with incs := m.incs ++ [y] } :=
  fun P m w ⟨sv, ov, iv, ps, b⟩ hP2 => ⟨b.here, lt_of_block b.box, iv, _, _, box_at b.box 33 _ rfl, box_free b.box _, b.incs.1, by unfold msgSz; omega, fun q e => ⟨b.incs.2 q e, b.ivg e⟩,
    fun w2 w3 v' y cells hl hg ho ha he => by
      obtain ⟨rfl, hy⟩ := he
      have hgl := lt_of_block b.box
      have hbox := (blk_grown hl hg hgl (fun e => b.ivg e rfl)).trans b.box
      have hn : v'.ownBlock ≠ some g := own_not ho hbox (by decide)
      have hsv := fun q (e : sv.ownBlock = some q) => blk_grown hl hg (own_lt b.steps.1 e).1 (own_ne b.steps.1 b.incs.1 (by decide) e)
      have hov := fun q (e : ov.ownBlock = some q) => blk_grown hl hg (own_lt b.ops.row e).1 (own_ne b.ops.row b.incs.1 (by decide) e)
      have hps := fun p (hp : p ∈ ps) q (e : p.2.ownBlock = some q) => blk_grown hl hg (own_lt (b.ops.each p hp).2.1.1 e).1 (own_ne (b.ops.each p hp).2.1.1 b.incs.1 (by decide) e)
      refine ⟨sv, ov, v', ps, b.here, ⟨b.nums.kind, b.nums.src, b.nums.dst, b.nums.view, b.nums.last, b.nums.num, b.nums.commit, b.nums.nonce, b.nums.request, b.nums.rerr, b.nums.rsaga, b.nums.rstate, b.nums.rstep, b.nums.cview, b.nums.cstub, b.nums.csaga, b.nums.cstep, b.nums.ctry, (fun x hx => by rcases List.mem_append.1 hx with hx | hx; exact b.nums.incs x hx; obtain rfl : x = y := (by simpa using hx); exact hy)⟩, b.name, box_set hbox _ _ rfl, b.steps.blk fun q e => (set_other (b.svg e)).trans (hsv q e), b.ops.blk (fun q e => (set_other (b.ovg e)).trans (hov q e)) (fun p hp q e => (set_other (b.psg hp e)).trans (hps p hp q e)), b.list, ?_, ?_⟩
      · refine own_blk ?_ fun q e => set_other (fun hq => hn (hq ▸ e))
        rw [List.length_append, List.map_append]
        exact ho
      · intro q e
        rcases ha with ha | ha
        · exact b.incs.2 q (ha ▸ e)
        · rw [ha] at e
          obtain rfl := Option.some.inj e
          exact hP2 _ (Below.size hl)⟩
theorem invmsg_op (g : Nat) : OpPl (InvMsg g) msgSz msgOp g 12 where
  kind := fun _ _ _ ⟨_, _, _, _, b⟩ => ⟨b.here, lt_of_block b.box, ⟨_, box_at b.box 12 _ rfl⟩, box_free b.box _, fun _ hx => b.set _ _ _ rfl ⟨b.nums.kind, b.nums.src, b.nums.dst, b.nums.view, b.nums.last, b.nums.num, b.nums.commit, b.nums.nonce, b.nums.request, b.nums.rerr, b.nums.rsaga, b.nums.rstate, b.nums.rstep, b.nums.cview, b.nums.cstub, b.nums.csaga, b.nums.cstep, b.nums.ctry, b.nums.incs⟩ ⟨hx, b.name.2.1, b.name.2.2.1, b.name.2.2.2.1, b.name.2.2.2.2.1, b.name.2.2.2.2.2.1, b.name.2.2.2.2.2.2⟩ rfl rfl rfl⟩
  client := fun _ _ _ ⟨_, _, _, _, b⟩ => ⟨b.here, lt_of_block b.box, ⟨_, box_at b.box 13 _ rfl⟩, box_free b.box _, fun _ hx => b.set _ _ _ rfl ⟨b.nums.kind, b.nums.src, b.nums.dst, b.nums.view, b.nums.last, b.nums.num, b.nums.commit, b.nums.nonce, b.nums.request, b.nums.rerr, b.nums.rsaga, b.nums.rstate, b.nums.rstep, b.nums.cview, b.nums.cstub, b.nums.csaga, b.nums.cstep, b.nums.ctry, b.nums.incs⟩ ⟨b.name.1, hx, b.name.2.2.1, b.name.2.2.2.1, b.name.2.2.2.2.1, b.name.2.2.2.2.2.1, b.name.2.2.2.2.2.2⟩ rfl rfl rfl⟩
  request := fun _ _ _ ⟨_, _, _, _, b⟩ => ⟨b.here, lt_of_block b.box, ⟨_, box_at b.box 14 _ rfl⟩, box_free b.box _, fun _ hx => b.set _ _ _ rfl ⟨b.nums.kind, b.nums.src, b.nums.dst, b.nums.view, b.nums.last, b.nums.num, b.nums.commit, b.nums.nonce, b.nums.request, b.nums.rerr, b.nums.rsaga, b.nums.rstate, b.nums.rstep, b.nums.cview, b.nums.cstub, b.nums.csaga, b.nums.cstep, b.nums.ctry, b.nums.incs⟩ ⟨b.name.1, b.name.2.1, hx, b.name.2.2.2.1, b.name.2.2.2.2.1, b.name.2.2.2.2.2.1, b.name.2.2.2.2.2.2⟩ rfl rfl rfl⟩
  defn :=
    { name := fun _ _ _ ⟨_, _, _, _, b⟩ => ⟨b.here, lt_of_block b.box, ⟨_, box_at b.box 15 _ rfl⟩, box_free b.box _, fun _ hx => b.set _ _ _ rfl ⟨b.nums.kind, b.nums.src, b.nums.dst, b.nums.view, b.nums.last, b.nums.num, b.nums.commit, b.nums.nonce, b.nums.request, b.nums.rerr, b.nums.rsaga, b.nums.rstate, b.nums.rstep, b.nums.cview, b.nums.cstub, b.nums.csaga, b.nums.cstep, b.nums.ctry, b.nums.incs⟩ ⟨b.name.1, b.name.2.1, b.name.2.2.1, hx, b.name.2.2.2.2.1, b.name.2.2.2.2.2.1, b.name.2.2.2.2.2.2⟩ rfl rfl rfl⟩
      steps := invmsg_steps g
      grow := fun s d j h => by
        have h2 : d.steps.length ≤ s.op.steps.length + j := h
        have e : msgSz ((msgOp.comp opDef).set s d) = s.ops.length + s.incs.length + d.steps.length := rfl
        rw [e]
        unfold msgSz
        omega }
  saga := fun _ _ _ ⟨_, _, _, _, b⟩ => ⟨b.here, lt_of_block b.box, ⟨_, box_at b.box 17 _ rfl⟩, box_free b.box _, fun _ hx => b.set _ _ _ rfl ⟨b.nums.kind, b.nums.src, b.nums.dst, b.nums.view, b.nums.last, b.nums.num, b.nums.commit, b.nums.nonce, b.nums.request, b.nums.rerr, b.nums.rsaga, b.nums.rstate, b.nums.rstep, b.nums.cview, b.nums.cstub, b.nums.csaga, b.nums.cstep, b.nums.ctry, b.nums.incs⟩ ⟨b.name.1, b.name.2.1, b.name.2.2.1, b.name.2.2.2.1, hx, b.name.2.2.2.2.2.1, b.name.2.2.2.2.2.2⟩ rfl rfl rfl⟩
  step := fun _ _ _ ⟨_, _, _, _, b⟩ => ⟨b.here, lt_of_block b.box, ⟨_, box_at b.box 18 _ rfl⟩, box_free b.box _, fun _ hx => b.set _ _ _ rfl ⟨b.nums.kind, b.nums.src, b.nums.dst, b.nums.view, b.nums.last, b.nums.num, b.nums.commit, b.nums.nonce, b.nums.request, b.nums.rerr, b.nums.rsaga, b.nums.rstate, b.nums.rstep, b.nums.cview, b.nums.cstub, b.nums.csaga, b.nums.cstep, b.nums.ctry, b.nums.incs⟩ ⟨b.name.1, b.name.2.1, b.name.2.2.1, b.name.2.2.2.1, b.name.2.2.2.2.1, hx, b.name.2.2.2.2.2.2⟩ rfl rfl rfl⟩
  try_ := fun _ _ _ ⟨_, _, _, _, b⟩ => ⟨b.here, lt_of_block b.box, ⟨_, box_at b.box 19 _ rfl⟩, box_free b.box _, fun _ hx => b.set _ _ _ rfl ⟨b.nums.kind, b.nums.src, b.nums.dst, b.nums.view, b.nums.last, b.nums.num, b.nums.commit, b.nums.nonce, b.nums.request, b.nums.rerr, b.nums.rsaga, b.nums.rstate, b.nums.rstep, b.nums.cview, b.nums.cstub, b.nums.csaga, b.nums.cstep, b.nums.ctry, b.nums.incs⟩ ⟨b.name.1, b.name.2.1, b.name.2.2.1, b.name.2.2.2.1, b.name.2.2.2.2.1, b.name.2.2.2.2.2.1, hx⟩ rfl rfl rfl⟩
  back := fun _ _ _ ⟨_, _, _, _, b⟩ => ⟨b.here, lt_of_block b.box, ⟨_, box_at b.box 20 _ rfl⟩, box_free b.box _, fun _ => b.set _ _ _ rfl ⟨b.nums.kind, b.nums.src, b.nums.dst, b.nums.view, b.nums.last, b.nums.num, b.nums.commit, b.nums.nonce, b.nums.request, b.nums.rerr, b.nums.rsaga, b.nums.rstate, b.nums.rstep, b.nums.cview, b.nums.cstub, b.nums.csaga, b.nums.cstep, b.nums.ctry, b.nums.incs⟩ b.name rfl rfl rfl⟩
  good := fun _ _ _ ⟨_, _, _, _, b⟩ => ⟨b.here, lt_of_block b.box, ⟨_, box_at b.box 21 _ rfl⟩, box_free b.box _, fun _ => b.set _ _ _ rfl ⟨b.nums.kind, b.nums.src, b.nums.dst, b.nums.view, b.nums.last, b.nums.num, b.nums.commit, b.nums.nonce, b.nums.request, b.nums.rerr, b.nums.rsaga, b.nums.rstate, b.nums.rstep, b.nums.cview, b.nums.cstub, b.nums.csaga, b.nums.cstep, b.nums.ctry, b.nums.incs⟩ b.name rfl rfl rfl⟩
  grow := fun s x j h => by
    have h2 : x.steps.length ≤ s.op.steps.length + j := h
    have e : msgSz (msgOp.set s x) = s.ops.length + s.incs.length + x.steps.length := rfl
    rw [e]
    unfold msgSz
    omega
theorem invmsg_pl (g : Nat) : MsgPl (InvMsg g) g 0 where
  kind := fun _ _ _ ⟨_, _, _, _, b⟩ => ⟨b.here, lt_of_block b.box, ⟨_, box_at b.box 0 _ rfl⟩, box_free b.box _, fun _ hx => b.set _ _ _ rfl ⟨hx, b.nums.src, b.nums.dst, b.nums.view, b.nums.last, b.nums.num, b.nums.commit, b.nums.nonce, b.nums.request, b.nums.rerr, b.nums.rsaga, b.nums.rstate, b.nums.rstep, b.nums.cview, b.nums.cstub, b.nums.csaga, b.nums.cstep, b.nums.ctry, b.nums.incs⟩ b.name rfl rfl rfl⟩
  src := fun _ _ _ ⟨_, _, _, _, b⟩ => ⟨b.here, lt_of_block b.box, ⟨_, box_at b.box 1 _ rfl⟩, box_free b.box _, fun _ hx => b.set _ _ _ rfl ⟨b.nums.kind, hx, b.nums.dst, b.nums.view, b.nums.last, b.nums.num, b.nums.commit, b.nums.nonce, b.nums.request, b.nums.rerr, b.nums.rsaga, b.nums.rstate, b.nums.rstep, b.nums.cview, b.nums.cstub, b.nums.csaga, b.nums.cstep, b.nums.ctry, b.nums.incs⟩ b.name rfl rfl rfl⟩
  dst := fun _ _ _ ⟨_, _, _, _, b⟩ => ⟨b.here, lt_of_block b.box, ⟨_, box_at b.box 2 _ rfl⟩, box_free b.box _, fun _ hx => b.set _ _ _ rfl ⟨b.nums.kind, b.nums.src, hx, b.nums.view, b.nums.last, b.nums.num, b.nums.commit, b.nums.nonce, b.nums.request, b.nums.rerr, b.nums.rsaga, b.nums.rstate, b.nums.rstep, b.nums.cview, b.nums.cstub, b.nums.csaga, b.nums.cstep, b.nums.ctry, b.nums.incs⟩ b.name rfl rfl rfl⟩
  view := fun _ _ _ ⟨_, _, _, _, b⟩ => ⟨b.here, lt_of_block b.box, ⟨_, box_at b.box 3 _ rfl⟩, box_free b.box _, fun _ hx => b.set _ _ _ rfl ⟨b.nums.kind, b.nums.src, b.nums.dst, hx, b.nums.last, b.nums.num, b.nums.commit, b.nums.nonce, b.nums.request, b.nums.rerr, b.nums.rsaga, b.nums.rstate, b.nums.rstep, b.nums.cview, b.nums.cstub, b.nums.csaga, b.nums.cstep, b.nums.ctry, b.nums.incs⟩ b.name rfl rfl rfl⟩
  last := fun _ _ _ ⟨_, _, _, _, b⟩ => ⟨b.here, lt_of_block b.box, ⟨_, box_at b.box 4 _ rfl⟩, box_free b.box _, fun _ hx => b.set _ _ _ rfl ⟨b.nums.kind, b.nums.src, b.nums.dst, b.nums.view, hx, b.nums.num, b.nums.commit, b.nums.nonce, b.nums.request, b.nums.rerr, b.nums.rsaga, b.nums.rstate, b.nums.rstep, b.nums.cview, b.nums.cstub, b.nums.csaga, b.nums.cstep, b.nums.ctry, b.nums.incs⟩ b.name rfl rfl rfl⟩
  num := fun _ _ _ ⟨_, _, _, _, b⟩ => ⟨b.here, lt_of_block b.box, ⟨_, box_at b.box 5 _ rfl⟩, box_free b.box _, fun _ hx => b.set _ _ _ rfl ⟨b.nums.kind, b.nums.src, b.nums.dst, b.nums.view, b.nums.last, hx, b.nums.commit, b.nums.nonce, b.nums.request, b.nums.rerr, b.nums.rsaga, b.nums.rstate, b.nums.rstep, b.nums.cview, b.nums.cstub, b.nums.csaga, b.nums.cstep, b.nums.ctry, b.nums.incs⟩ b.name rfl rfl rfl⟩
  commit := fun _ _ _ ⟨_, _, _, _, b⟩ => ⟨b.here, lt_of_block b.box, ⟨_, box_at b.box 6 _ rfl⟩, box_free b.box _, fun _ hx => b.set _ _ _ rfl ⟨b.nums.kind, b.nums.src, b.nums.dst, b.nums.view, b.nums.last, b.nums.num, hx, b.nums.nonce, b.nums.request, b.nums.rerr, b.nums.rsaga, b.nums.rstate, b.nums.rstep, b.nums.cview, b.nums.cstub, b.nums.csaga, b.nums.cstep, b.nums.ctry, b.nums.incs⟩ b.name rfl rfl rfl⟩
  nonce := fun _ _ _ ⟨_, _, _, _, b⟩ => ⟨b.here, lt_of_block b.box, ⟨_, box_at b.box 7 _ rfl⟩, box_free b.box _, fun _ hx => b.set _ _ _ rfl ⟨b.nums.kind, b.nums.src, b.nums.dst, b.nums.view, b.nums.last, b.nums.num, b.nums.commit, hx, b.nums.request, b.nums.rerr, b.nums.rsaga, b.nums.rstate, b.nums.rstep, b.nums.cview, b.nums.cstub, b.nums.csaga, b.nums.cstep, b.nums.ctry, b.nums.incs⟩ b.name rfl rfl rfl⟩
  request := fun _ _ _ ⟨_, _, _, _, b⟩ => ⟨b.here, lt_of_block b.box, ⟨_, box_at b.box 8 _ rfl⟩, box_free b.box _, fun _ hx => b.set _ _ _ rfl ⟨b.nums.kind, b.nums.src, b.nums.dst, b.nums.view, b.nums.last, b.nums.num, b.nums.commit, b.nums.nonce, hx, b.nums.rerr, b.nums.rsaga, b.nums.rstate, b.nums.rstep, b.nums.cview, b.nums.cstub, b.nums.csaga, b.nums.cstep, b.nums.ctry, b.nums.incs⟩ b.name rfl rfl rfl⟩
  lead := fun _ _ _ ⟨_, _, _, _, b⟩ => ⟨b.here, lt_of_block b.box, ⟨_, box_at b.box 9 _ rfl⟩, box_free b.box _, fun _ => b.set _ _ _ rfl ⟨b.nums.kind, b.nums.src, b.nums.dst, b.nums.view, b.nums.last, b.nums.num, b.nums.commit, b.nums.nonce, b.nums.request, b.nums.rerr, b.nums.rsaga, b.nums.rstate, b.nums.rstep, b.nums.cview, b.nums.cstub, b.nums.csaga, b.nums.cstep, b.nums.ctry, b.nums.incs⟩ b.name rfl rfl rfl⟩
  good := fun _ _ _ ⟨_, _, _, _, b⟩ => ⟨b.here, lt_of_block b.box, ⟨_, box_at b.box 10 _ rfl⟩, box_free b.box _, fun _ => b.set _ _ _ rfl ⟨b.nums.kind, b.nums.src, b.nums.dst, b.nums.view, b.nums.last, b.nums.num, b.nums.commit, b.nums.nonce, b.nums.request, b.nums.rerr, b.nums.rsaga, b.nums.rstate, b.nums.rstep, b.nums.cview, b.nums.cstub, b.nums.csaga, b.nums.cstep, b.nums.ctry, b.nums.incs⟩ b.name rfl rfl rfl⟩
  fenced := fun _ _ _ ⟨_, _, _, _, b⟩ => ⟨b.here, lt_of_block b.box, ⟨_, box_at b.box 11 _ rfl⟩, box_free b.box _, fun _ => b.set _ _ _ rfl ⟨b.nums.kind, b.nums.src, b.nums.dst, b.nums.view, b.nums.last, b.nums.num, b.nums.commit, b.nums.nonce, b.nums.request, b.nums.rerr, b.nums.rsaga, b.nums.rstate, b.nums.rstep, b.nums.cview, b.nums.cstub, b.nums.csaga, b.nums.cstep, b.nums.ctry, b.nums.incs⟩ b.name rfl rfl rfl⟩
  op := invmsg_op g
  reply := invmsg_reply g
  cmd := invmsg_cmd g
  ops := invmsg_ops g
  incs := invmsg_incs g
end Go.Proofs.YtehiaeihkdfclaaGreatDoor
/- The walk over Read: a message of bytes. -/
namespace Go.Proofs.YtehiaeihkdfclaaGreatDoor
open Go.RowKit

/-- The message of these bytes, or the error. -/
def readM (l : List Nat) : Nat × MsgD := if (opn l).2.2 ≠ 0 then ((opn l).2.2, .zero) else if bytesM (msgR (opn l).1) = l then (0, msgR (opn l).1) else (4, .zero)
theorem readM_1 {l : List Nat} (h : (opn l).2.2 ≠ 0) : readM l = ((opn l).2.2, .zero) := by unfold readM; rw [if_pos h]
theorem readM_2 {l : List Nat} (h : (opn l).2.2 = 0) (h2 : ¬ bytesM (msgR (opn l).1) = l) : readM l = (4, .zero) := by unfold readM; rw [if_neg (by simpa using h), if_neg h2]
theorem readM_3 {l : List Nat} (h : (opn l).2.2 = 0) (h2 : bytesM (msgR (opn l).1) = l) : readM l = (0, msgR (opn l).1) := by unfold readM; rw [if_neg (by simpa using h), if_pos h2]
def GotM (w : World) (q : Nat × MsgD) (e : Ending) (w' : World) : Prop :=
  ∃ (m : MsgD) (er : Nat) (sv ov iv : Value), m = q.2 ∧ er = q.1 ∧ e = .returned (.tuple #[.agg (m.cells sv ov iv).toArray, .int .i64 (er : Int)]) ∧ Lists (w.heap.size ≤ ·) w' m sv ov iv ∧ Later w w'
theorem zero_lists (F : Nat → Prop) (w : World) : Lists F w .zero (.slice none 0 0) (.slice none 0 0) (.slice none 0 0) := ⟨StepsAt.nil_ _ _, OpsAt.nil_ _ _, IncsAt.nil_ _ _⟩
/-- What is laid of a message that was read. -/
theorem MsgObj.lists {g : Nat} {P F : Nat → Prop} {m : MsgD} {w : World} {sv ov iv : Value} {ps : List (OpD × Value)} (h : MsgObj g P m w sv ov iv ps) (hF : ∀ q, q ≠ g → P q → F q) : Lists F w m sv ov iv := by
  refine ⟨own_flat h.steps.1 (fun u hu => by obtain ⟨s, _, hs⟩ := List.mem_flatMap.1 hu; exact s.one u hs) fun q e => hF q (h.svg e) (h.steps.2.1 q e), ⟨ps, h.list, own_flat h.ops.row (fun u hu => ?_) fun q e => hF q (h.ovg e) (h.ops.own q e), fun p hp => ?_⟩, own_flat h.incs.1 (fun u hu => by obtain ⟨x, _, rfl⟩ := List.mem_map.1 hu; rfl) fun q e => hF q (h.ivg e) (h.incs.2 q e)⟩
  · obtain ⟨p, hp, hu⟩ := List.mem_flatMap.1 hu
    obtain ⟨A, c, hs⟩ := own_shape (h.ops.each p hp).2.1.1
    exact p.1.one (by rw [hs]; rfl) u hu
  · exact own_flat (h.ops.each p hp).2.1.1 (fun u hu => by obtain ⟨s, _, hs⟩ := List.mem_flatMap.1 hu; exact s.one u hs) fun q e => hF q (h.psg hp e) ((h.ops.each p hp).2.1.2.1 q e)
theorem msgR_ops (l : List Nat) : (msgR l).ops.length ≤ l.length := by
  have h := rdB_grow (sz := msgSz) msgPs_own msg_grow l .zero
  have e : msgSz (msgR l) ≤ l.length := by
    have h0 : msgSz MsgD.zero = 0 := rfl
    rw [h0] at h
    simpa [msgR] using h
  unfold msgSz at e
  omega
theorem opn_len (l : List Nat) : (opn l).1.length ≤ l.length := by
  unfold opn
  split
  · simp
  · split
    · simp
    · simp only [List.length_take, List.length_drop]; omega
def zMsg : Array Value := (MsgD.zero.cells (.slice none 0 0) (.slice none 0 0) (.slice none 0 0)).toArray
theorem zMsg_put (cs : List Value) (h : cs.length = 34) : putAt zMsg 0 cs = cs.toArray := by
  apply Array.ext'
  rw [putAt_toList _ _ _ (by rw [h]; decide)]
  have : zMsg.toList.length = 34 := rfl
  simp [h, this]
set_option maxHeartbeats 2000000 in
set_option maxRecDepth 100000 in
theorem readmsg_any {w : World} {A : Option Addr} {n c : Nat} {l : List Nat} (hl : Holds w w.heap.size A n l) (hn : n ≤ 90000) (hc : n ≤ c) (hT : Tab w) :
    Calls Tryz.prog 17 #[.slice A n c] w (GotM w (readM l)) := by
  have hL : Later w (w.alloc (.cells zMsg 35 (0, 0))) := Later.alloc _ _
  have C := hide (open_any A n c l _ ((hl.below hL).more (Below.size hL)) (by omega) hc (hT.later hL))
  have X0 : Hid ((w.alloc (.cells zMsg 35 (0, 0))).heap[w.heap.size]? = some (.cells zMsg 35 (0, 0))) := heap_alloc_new _ _
  have HL := hide hL
  have HH := hide hl
  have HLEN : Hid (l.length = n) := hl.1
  have HN := hide hn
  have HT := hide hT
  have HC := hide hc
  have HZ : Hid ((w.alloc (.cells zMsg 35 (0, 0))).heap.size = w.heap.size + 1) := World.size_alloc _ _
  clear hl hn hc hL hT
  go_enter Tryz.func17, Tryz.ntmps17
  go_wp2_with (fail)
  refine C.out.mono ?_
  rintro e w1 ⟨A1, n1, c1, rfl, hh, hnc, l1⟩
  obtain ⟨er, her⟩ : ∃ q, (opn l).2.2 = q := ⟨_, rfl⟩
  obtain ⟨pl, hpl⟩ : ∃ q, (opn l).1 = q := ⟨_, rfl⟩
  have HPL := hide hpl
  have hple := opn_len l
  rw [hpl] at hh hple
  have hn1 : n1 ≤ 90000 := by have h1 := hh.1; have h2 := HLEN.out; have h3 := HN.out; omega
  have HHP := hide hh
  have L1 := hide l1
  have HLW1 := hide (HL.out.trans l1)
  have X1 := hide ((Below.block l1 _ (lt_of_block X0.out)).trans X0.out)
  have HPLE := hide hple
  rw [her]
  have HER := hide her
  clear hh l1 hpl hple her C
  by_cases h0 : er = 0
  · subst h0
    go_wp2_with (fail)
    have hL7 : Later w1 (w1.alloc (.cells zMsg 35 (0, 0))) := Later.alloc _ _
    have hx7 : (w1.alloc (.cells zMsg 35 (0, 0))).heap[w1.heap.size]? = some (.cells zMsg 35 (0, 0)) := heap_alloc_new _ _
    have hz7 : (w1.alloc (.cells zMsg 35 (0, 0))).heap.size = w1.heap.size + 1 := World.size_alloc _ _
    refine (msgParts_any (w := w1.alloc (.cells zMsg 35 (0, 0))) (g := w1.heap.size) (o := 0) (by omega)).mono ?_
    rintro e w2 ⟨A2, ps, rfl, hlen, hpa, l2, hsub⟩
    have hz2 := Below.size l2
    have HL2 := hide (hL7.trans l2)
    have D := hide (nread_any (P := fun k => k = w1.heap.size ∨ w2.heap.size ≤ k) (A := A1) (n := n1) (c := c1) (l := pl) (s := MsgD.zero) (invmsg_ok w1.heap.size) hpa hlen.symm (Stay.refl (Nat.le_refl _))
      (hsub.2 _ (invmsg_ok w1.heap.size) (invmsg_pl w1.heap.size)) msgPs_own msg_grow (fun k h1 h2 h => by rcases h with h | h <;> omega) (fun k h => Or.inr h)
      (invmsg_zero (Or.inl rfl) ((Below.block l2 _ (by omega)).trans hx7)) (HHP.out.later (hL7.trans l2)) (by omega) hnc (by have h0 : msgSz MsgD.zero = 0 := rfl; rw [h0]; omega))
    clear hlen hpa hsub hL7 hx7
    go_wp2_with (fail)
    refine D.out.mono ?_
    rintro e w3 ⟨rfl, hv3, ht3⟩
    have hs3 := ht3.size
    have hb3 : Below w1.heap.size w1 w3 := (show Below w1.heap.size w1 w2 from HL2.out).trans (ht3.below (fun k h => by rcases h with h | h <;> omega) (by omega))
    have HLW3 : Hid (Later w w3) := HLW1.out.trans hb3
    have X3 := hide ((Below.block hb3 _ (lt_of_block X1.out)).trans X1.out)
    obtain ⟨m, hm⟩ : ∃ m, m = msgR pl := ⟨_, rfl⟩
    have hops : m.ops.length ≤ 100000 := by rw [hm]; have h1 := msgR_ops pl; have h2 := HPLE.out; have h3 := HLEN.out; have h4 := HN.out; omega
    have hv3' : InvMsg w1.heap.size (fun k => k = w1.heap.size ∨ w2.heap.size ≤ k) m w3 := by rw [hm]; exact hv3
    obtain ⟨sv, ov, iv, ps2, ob⟩ := hv3'
    have HLS : Hid (Lists (w1.heap.size < ·) w3 m sv ov iv) := ob.lists fun q h1 h2 => by rcases h2 with h2 | h2 <;> omega
    have HX := hide ob.box
    have HME := hide hm
    have HW13 : Hid (w1.heap.size < w3.heap.size) := lt_of_block ob.box
    have E := hide (bytes_any hops HLS.out (HT.out.later HLW3.out))
    have HBH : Hid (Holds w3 w.heap.size A n l) := HH.out.below HLW3.out
    have HW01 : Hid (w.heap.size < w1.heap.size) := by have h1 := Below.size L1.out; have h2 := HZ.out; show _ < _; omega
    clear hv3 ht3 hs3 hb3 ob hm hops l2 hz2 D hz7
    have hnz : (((0 : Nat) : Int) != 0) = false := rfl
    go_wp2_with (refine wpList_load_box (by rfl) 35 _ (by rfl) w1.heap.size 0 (by rfl) 35 _ HX.out 34 _ Tryz.underlying35 (by rfl) (by kernel_rfl) (m.cells sv ov iv) (by simp [List.take_of_length_le (Nat.le_of_eq (m.len sv ov iv))]) (m.len sv ov iv) ?_)
    refine E.out.mono ?_
    rintro e w4 ⟨A4, n4, c4, rfl, ho, hh, hc4, hb4⟩
    have l4 : Later w3 w4 := hb4
    have HLW4 := hide (HLW3.out.trans l4)
    have X4 := hide ((Below.block l4 _ (lt_of_block X3.out)).trans X3.out)
    have HX4 := hide ((Below.block l4 _ (lt_of_block HX.out)).trans HX.out)
    have HLS4 := hide (HLS.out.kept (Kept.of_below l4 _))
    obtain ⟨q, hq⟩ : ∃ q, decide (bytesM m = l) = q := ⟨_, rfl⟩
    have K := hide (equal_any A4 A n4 c4 n c _ _ _ _ w4 hh (HBH.out.below (Below.mono hb4 (Below.size HLW3.out))))
    rw [hq] at K
    have HQ := hide hq
    have HW04 : Hid (w1.heap.size < w4.heap.size) := lt_of_block HX4.out
    clear ho hh hb4 l4 hq E
    go_wp2_with (fail)
    refine K.out.mono ?_
    rintro e w5 ⟨rfl, rfl⟩
    clear K
    cases q with
    | false =>
      go_wp2_with (refine wpList_store_box (by rfl) 35 _ _ (by rfl) w.heap.size 0 zMsg (by rfl) (by rfl) 35 _ X4.out (by kernel_rfl) (by exact Nat.le_of_ble_eq_true rfl) (by exact MsgD.zero.one rfl rfl rfl) ?_; intro w5 hb5 hg5)
      have hb6 : w5.heap[w.heap.size]? = some (.cells zMsg 35 (0, 0)) := by rw [hb5, zMsg_put _ rfl]
      refine bodyPost_ret (results_box2 Tryz.results17 _ _ w.heap.size 35 _ _ (by rfl) hb6 Tryz.underlying35 (by rfl) (by kernel_rfl) _ (by rfl)) (by rfl) ?_
      have hr := readM_2 (l := l) HER.out (by rw [HPL.out, ← HME.out]; exact of_decide_eq_false HQ.out)
      refine ⟨.zero, 4, .slice none 0 0, .slice none 0 0, .slice none 0 0, by rw [hr], by rw [hr], rfl, zero_lists _ _, ?_⟩
      exact Below.trans HLW4.out ((Below.refl _ _).grown hg5 (Below.size HLW4.out) fun k hk => by have := Option.some.inj hk; omega)
    | true =>
      go_wp2_with (first
        | (refine wpList_load_box (by rfl) 35 _ (by rfl) w1.heap.size 0 (by rfl) 35 _ HX4.out 34 _ Tryz.underlying35 (by rfl) (by kernel_rfl) (m.cells sv ov iv) (by simp [List.take_of_length_le (Nat.le_of_eq (m.len sv ov iv))]) (m.len sv ov iv) ?_)
        | (refine wpList_store_box (by rfl) 35 _ _ (by rfl) w.heap.size 0 (m.cells sv ov iv).toArray (by rfl) (by rfl) 35 _ X4.out (by kernel_rfl) (by exact Nat.le_of_eq (m.len sv ov iv)) (by exact m.one HLS4.out.cell.1 HLS4.out.cell.2.1 HLS4.out.cell.2.2) ?_; intro w5 hb5 hg5))
      have hb6 : w5.heap[w.heap.size]? = some (.cells (m.cells sv ov iv).toArray 35 (0, 0)) := by rw [hb5, zMsg_put _ (m.len sv ov iv)]
      refine bodyPost_ret (results_box2 Tryz.results17 _ _ w.heap.size 35 _ _ (by rfl) hb6 Tryz.underlying35 (by rfl) (by kernel_rfl) _ (by rfl)) (by rfl) ?_
      have hr := readM_3 (l := l) HER.out (by rw [HPL.out, ← HME.out]; exact of_decide_eq_true HQ.out)
      refine ⟨m, 0, sv, ov, iv, by rw [hr, HPL.out, HME.out], by rw [hr], rfl, ?_, ?_⟩
      · exact (HLS4.out.kept (Kept.of_grown hg5 fun g hg h => by have := Option.some.inj hg; have h2 := HW01.out; have h3 : w1.heap.size < g := h; omega)).mono fun i _ h => by have h2 := HW01.out; have h3 : w1.heap.size < i := h; show _ ≤ i; omega
      · exact Below.trans HLW4.out ((Below.refl _ _).grown hg5 (Below.size HLW4.out) fun k hk => by have := Option.some.inj hk; omega)
  · have hnz : ((er : Int) != 0) = true := by simp; omega
    have H0 := hide h0
    clear h0
    go_wp2_with (refine wpList_store_box (by rfl) 35 _ _ (by rfl) w.heap.size 0 zMsg (by rfl) (by rfl) 35 _ X1.out (by kernel_rfl) (by exact Nat.le_of_ble_eq_true rfl) (by exact MsgD.zero.one rfl rfl rfl) ?_; intro w5 hb5 hg5)
    have hb6 : w5.heap[w.heap.size]? = some (.cells zMsg 35 (0, 0)) := by rw [hb5, zMsg_put _ rfl]
    refine bodyPost_ret (results_box2 Tryz.results17 _ _ w.heap.size 35 _ _ (by rfl) hb6 Tryz.underlying35 (by rfl) (by kernel_rfl) _ (by rfl)) (by rfl) ?_
    have hr := readM_1 (l := l) (by rw [HER.out]; exact H0.out)
    refine ⟨.zero, er, .slice none 0 0, .slice none 0 0, .slice none 0 0, by rw [hr], by rw [hr, HER.out], rfl, zero_lists _ _, ?_⟩
    exact Below.trans HLW1.out ((Below.refl _ _).grown hg5 (Below.size HLW1.out) fun k hk => by have := Option.some.inj hk; omega)
end Go.Proofs.YtehiaeihkdfclaaGreatDoor
/- How much a message has, up to some, and how long its names are: droverref04.weigh, Steps. -/
namespace Go.Proofs.YtehiaeihkdfclaaGreatDoor
open Go.RowKit

/-- What weigh tells of an operation: it is above the number of its steps, as long as it is not above mx. -/
def WeighsN (mx : Int) (o : OpD) (w : World) (e : Ending) (w' : World) : Prop :=
  ∃ n : Int, e = .returned (.int .i64 n) ∧ 1 ≤ n ∧ n ≤ 20000000000000 ∧ (n ≤ mx → (o.steps.length : Int) < n ∧ (o.name.size : Int) / 20 < n ∧ ∀ s ∈ o.steps, (s.name.size : Int) / 20 ≤ n) ∧ Later w w'
theorem take_next {α : Type} {Q : α → Prop} {l : List α} {k : Nat} {x : α} (hx : l[k]? = some x) (h : ∀ s ∈ l.take k, Q s) (hq : Q x) : ∀ s ∈ l.take (k + 1), Q s := by
  intro s hs
  rw [List.take_add_one, hx] at hs
  rcases List.mem_append.1 hs with hs | hs
  · exact h s hs
  · obtain rfl : s = x := by simpa using hs
    exact hq

set_option maxHeartbeats 1000000 in
theorem weighn_any (mx : Int) (hm0 : 0 ≤ mx) (hm1 : mx ≤ 1000) (F : Nat → Prop) (o : OpD) (s : Value) (w : World) (hn : o.name.size ≤ 140737488355328) (hs : ∀ x ∈ o.steps, x.wf) (h : StepsAt F w s o.steps) :
    Calls Tryz.prog 57 #[.agg (o.cells s).toArray, .int .i64 mx] w (WeighsN mx o w) := by
  obtain ⟨A, c, rfl, h1, h2, _⟩ := FlatAt.shape h
  unfold maxLen at h2
  have HS := hide hs
  have HF := hide h
  clear hs h
  unfold OpD.cells
  obtain ⟨L, hL⟩ : ∃ L, o.steps.length = L := ⟨_, rfl⟩
  rw [hL] at h1 HF ⊢
  have HL := hide hL
  clear hL
  obtain ⟨z, hz⟩ : ∃ z, z = o.name.size / 20 := ⟨_, rfl⟩
  have hz1 : (o.name.size : Int) / 20 = (z : Int) := by omega
  have hz2 : z ≤ 8000000000000 := by omega
  clear hz
  go_enter Tryz.func57, Tryz.ntmps57
  go_wp2
  go_loopw [5, 18] (fun n i wr => ∃ (q : Int) (k : Nat), k ≤ L ∧ n = .int .i64 q ∧ i = .int .i64 (k : Int) ∧ (k : Int) < q ∧ q ≤ 8000000000001 ∧ (0 < k → q ≤ mx) ∧ (z : Int) < q ∧ (∀ s ∈ o.steps.take k, (s.name.size : Int) / 20 ≤ q) ∧ Below w.heap.size w wr) (fun _ i _ => L - (intOf i).toNat)
  case atStart => exact ⟨_, 0, by omega, rfl, rfl, by omega, by omega, by omega, by omega, by simp, (Below.refl _ _).alloc (Nat.le_refl _) _⟩
  case round =>
    obtain ⟨q, k, hk, rfl, rfl, hq1, hq2, hq3, hq4, hq5, hb⟩ := hrel
    have HB := hide hb
    have HQ5 := hide hq5
    clear hb hq5
    by_cases hkl : k < L
    · obtain ⟨x, b, off, c', hx, hv, _, _, hb, hr⟩ := StepsAt.at_ (HF.out.kept (Kept.of_below HB.out F)) (i := k) (by rw [HL.out]; exact hkl)
      obtain ⟨rfl, rfl⟩ : A = some ⟨b, off, none⟩ ∧ c = c' := by injection hv with e1 _ e3; exact ⟨e1, e3⟩
      obtain ⟨r0, r1, r2, r3, r4, r5⟩ := range_step hr
      have hxn := (HS.out x (List.mem_of_getElem? hx)).1
      obtain ⟨y, hy⟩ : ∃ y, y = x.name.size / 20 := ⟨_, rfl⟩
      have hy1 : (x.name.size : Int) / 20 = (y : Int) := by omega
      have hy2 : y ≤ 8000000000000 := by omega
      have HXX := hide hx
      have HY := hide hy1
      clear hy hx hv hr
      go_wp2
      · go_ret
        exact ⟨_, rfl, by omega, by omega, fun hle => by omega, HB.out.trans ((Below.alloc (Below.refl _ _) (Nat.le_refl _) _).mono HB.out.size)⟩
      · go_roundw
        case rel => exact ⟨q + (1 + y), k + 1, by omega, rfl, by go_num, by omega, by omega, by omega, by omega, take_next HXX.out (fun s hs => by have := HQ5.out s hs; omega) (by have := HY.out; omega), HB.out.trans ((Below.alloc (Below.refl _ _) (Nat.le_refl _) _).mono HB.out.size)⟩
        case measure => simp [intOf]; omega
    · go_wp2
      go_ret
      exact ⟨_, rfl, by omega, by omega, fun _ => ⟨by rw [HL.out]; omega, by rw [hz1]; omega, fun s hs => HQ5.out s (by rw [List.take_of_length_le (by rw [HL.out]; omega)]; exact hs)⟩, HB.out⟩

/-- What Steps tells of a message that is not above mx. -/
def OpD.lightP (mx : Int) (o : OpD) : Prop := (o.steps.length : Int) ≤ mx ∧ (o.name.size : Int) / 20 ≤ mx ∧ ∀ s ∈ o.steps, (s.name.size : Int) / 20 ≤ mx
theorem OpD.lightP.of {mx n : Int} {o : OpD} (h : (o.steps.length : Int) < n ∧ (o.name.size : Int) / 20 < n ∧ ∀ s ∈ o.steps, (s.name.size : Int) / 20 ≤ n) (hn : n ≤ mx) : o.lightP mx :=
  ⟨by have := h.1; omega, by have := h.2.1; omega, fun s hs => by have := h.2.2 s hs; omega⟩
def MsgD.lightN (mx : Int) (m : MsgD) : Prop := m.op.lightP mx ∧ (m.ops.length : Int) ≤ mx ∧ ∀ o ∈ m.ops, o.lightP mx
def CountsN (mx : Int) (m : MsgD) (w : World) (e : Ending) (w' : World) : Prop :=
  ∃ n : Int, e = .returned (.int .i64 n) ∧ (n ≤ mx → m.lightN mx) ∧ Later w w'

/-- So far none has more than mx steps. -/
def SomeN (mx : Int) (m : MsgD) (ps : List (OpD × Value)) (k : Nat) : Prop := m.op.lightP mx ∧ ∀ p ∈ ps.take k, p.1.lightP mx
theorem somen_step {mx : Int} {m : MsgD} {ps : List (OpD × Value)} {k : Nat} {x : OpD} {s : Value} (hx : ps[k]? = some (x, s)) (h : SomeN mx m ps k) (hs : x.lightP mx) : SomeN mx m ps (k + 1) := by
  refine ⟨h.1, fun p hp => ?_⟩
  rw [List.take_add_one, hx] at hp
  rcases List.mem_append.1 hp with hp | hp
  · exact h.2 p hp
  · obtain rfl : p = (x, s) := by simpa using hp
    exact hs
theorem somen_end {mx : Int} {m : MsgD} {ps : List (OpD × Value)} {k : Nat} (hp : ps.map (·.1) = m.ops) (hl : m.ops.length = ps.length) (hk : ps.length ≤ k) (hq : (k : Int) ≤ mx) (h : SomeN mx m ps k) : m.lightN mx := by
  refine ⟨h.1, by omega, fun o ho => ?_⟩
  rw [← hp] at ho
  obtain ⟨p, hp, rfl⟩ := List.mem_map.1 ho
  exact h.2 p (by rwa [List.take_of_length_le hk])

set_option maxHeartbeats 2000000 in
set_option maxRecDepth 100000 in
theorem stepsn_any (mx : Int) (hm0 : 0 ≤ mx) (hm1 : mx ≤ 1000) (F : Nat → Prop) (m : MsgD) (s o i : Value) (w : World) (hw : m.wf) (h : Lists F w m s o i) :
    Calls Tryz.prog 26 #[.agg (m.cells s o i).toArray, .int .i64 mx] w (CountsN mx m w) := by
  obtain ⟨hs, ⟨ps, hps, ho⟩, hi⟩ := h
  have hl : m.ops.length = ps.length := by rw [← hps]; simp
  have hwp : ∀ p ∈ ps, p.1.wf := fun p hp => hw.2.2.2.2.2.2.2.2.2.2.2.2.2.2.2.2.2.2.2.1 p.1 (by rw [← hps]; exact List.mem_map_of_mem hp)
  have hwo : m.op.wf := hw.2.2.2.2.2.2.2.2.2.1
  have HP := hide hps
  have HW := hide hwp
  have HL := hide hl
  have HO := hide ho
  obtain ⟨A, c, rfl, h1, h2, _⟩ := FlatAt.shape ho.1
  unfold maxLen at h2
  have C1 := hide (fun w' (hb : Below w.heap.size w w') => weighn_any mx hm0 hm1 F m.op s w' hwo.2.2.2.1 hwo.2.2.2.2.1 (hs.kept (Kept.of_below hb F)))
  clear hs hps ho hi hw hwp hwo hl
  unfold MsgD.cells
  unfold OpD.cells at C1
  go_enter Tryz.func26, Tryz.ntmps26
  go_wp2_with (fail)
  refine (C1.out _ ((Below.refl _ _).alloc (Nat.le_refl _) _)).mono ?_
  rintro e w1 ⟨q, rfl, hq1, hq2, hq3, hb⟩
  have HB1 : Hid (Below w.heap.size w w1) := ((Below.refl _ _).alloc (Nat.le_refl _) _).trans (Below.mono hb (by simp))
  have hbox : w1.heap[w.heap.size]? = _ := (hb.block w.heap.size (by simp)).trans (heap_alloc_new w _)
  have f15 := cell_of_row w1 w.heap.size 32 _ _ _ hbox
  simp only [List.getElem?_toArray, List.getElem?_cons_succ, List.getElem?_cons_zero] at f15
  have HQ := hide hq3
  have HX := hide hbox
  clear hb hq3 hbox C1
  go_wp2
  go_loopw [5, 15] (fun n i wr => ∃ (q : Int) (k : Nat), k ≤ ps.length ∧ n = .int .i64 q ∧ i = .int .i64 (k : Int) ∧ (k : Int) < q ∧ q ≤ 20000000002000 ∧ (q ≤ mx → SomeN mx m ps k) ∧ Below w.heap.size w wr) (fun _ i _ => ps.length - (intOf i).toNat)
  case atStart => exact ⟨q, 0, by omega, rfl, rfl, by omega, by omega, fun h => ⟨OpD.lightP.of (HQ.out h) h, by simp⟩, HB1.out⟩
  case round =>
    obtain ⟨q, k, hk, rfl, rfl, hq1, hq2, hq3, hb⟩ := hrel
    have HQ3 := hide hq3
    have HB := hide hb
    clear hb hq3
    by_cases hkl : k < ps.length
    · obtain ⟨x, xs, b, off, c', hx, hv, _, _, hb, hr, hst⟩ := OpsIn.at_ (HO.out.kept (Kept.of_below HB.out F)) (i := k) hkl
      obtain ⟨rfl, rfl⟩ : A = some ⟨b, off, none⟩ ∧ c = c' := by injection hv with e1 _ e3; exact ⟨e1, e3⟩
      obtain ⟨r0, r1, r2, r3, r4, r5, r6, r7, r8, r9⟩ := range_op hr
      have hwx : x.wf := HW.out _ (List.mem_of_getElem? hx)
      have HX2 := hide hx
      obtain ⟨sA, sc, rfl, _, _, _⟩ := FlatAt.shape hst
      have C2 := hide (fun w' (hb : Below wr.heap.size wr w') => weighn_any mx hm0 hm1 F x _ w' hwx.2.2.2.1 hwx.2.2.2.2.1 (hst.kept (Kept.of_below hb F)))
      unfold OpD.cells at C2
      clear hx hv hr hst hwx
      by_cases hbig : q ≤ mx
      · go_wp2_with (fail)
        refine (C2.out _ ((Below.refl _ _).alloc (Nat.le_refl _) _)).mono ?_
        rintro e w2 ⟨r, rfl, hr1, hr2, hr3, hb⟩
        have HB2 : Hid (Below w.heap.size w w2) := HB.out.trans ((((Below.refl _ _).alloc (Nat.le_refl _) _).trans (Below.mono hb (by simp))).mono HB.out.size)
        have HR := hide hr3
        clear hb hr3 C2
        go_wp2
        go_roundw
        case rel => exact ⟨q + (1 + r), k + 1, by omega, rfl, by go_num, by omega, by omega, fun h => somen_step HX2.out (HQ3.out hbig) (OpD.lightP.of (HR.out (by omega)) (by omega)), HB2.out⟩
        case measure => simp [intOf]; omega
      · go_wp2_with (fail)
        go_ret
        exact ⟨_, rfl, fun h => absurd h (by omega), HB.out.trans (((Below.refl _ _).alloc (Nat.le_refl _) _).mono HB.out.size)⟩
    · go_wp2
      go_ret
      exact ⟨_, rfl, fun h => somen_end HP.out HL.out (by omega) (by omega) (HQ3.out h), HB.out⟩
end Go.Proofs.YtehiaeihkdfclaaGreatDoor
/- The document's examples: lives; which inputs are looked at: small. -/
namespace Go.Proofs.YtehiaeihkdfclaaGreatDoor
open Go.RowKit

def egOp : OpD := ⟨2, 1, 0, ⟨#[]⟩, [], 0, 0, 0, false, false⟩
def egMsg : MsgD := { MsgD.zero with kind := 5, view := 3 }
theorem egOp_bytes : opB egOp = [2, 4, 4, 2] := by decide +kernel
theorem egMsg_good : msgG0 egMsg = true := by decide +kernel
theorem egMsg_read : readM (bytesM egMsg) = (0, egMsg) := by decide +kernel
theorem egMsg_len : (bytesM egMsg).length ≤ 100 := by decide +kernel
theorem eg_sm : egOp.sm 16 := ⟨⟨by decide, by decide⟩, ⟨by decide, by decide⟩, ⟨by decide, by decide⟩, ⟨Nat.zero_le _, Nat.zero_le _, by intro s hs; cases hs⟩, ⟨by decide, by decide⟩, ⟨by decide, by decide⟩, ⟨by decide, by decide⟩⟩

/-- A struct into a block, what is said of the world behind it at once. -/
theorem wpList_store_more {P : Program} {ops : Array Oper} {rest : List Oper} {op : Oper} {a : Act} {w : World} {Q : Exit → Act → World → Prop} (hgd : op.guard = none) (ty : TypeId) (x y : Operand) (ho : op.op = .store ty x y)
    (g o : Nat) (cells : Array Value) (hx : a.eval x = .pointer (some ⟨g, o, none⟩)) (hy : a.eval y = .agg cells) (T : TypeId) (cs : Array Value) (hg : w.heap[g]? = some (.cells cs T (0, 0)))
    (hi : (P.info? ty).map (·.size) = some cells.size) (hfit : o + cells.size ≤ cs.size) (h1 : ∀ u ∈ cells.toList, u.oneCell' = true) (R : World → Prop)
    (hR : ∀ w', w'.heap[g]? = some (.cells (putAt cs o cells.toList) T (0, 0)) → w.grownBy w' (some g) → R w')
    (h : ∀ w', R w' → wpList P ops Q rest (a.put op.dst undef) w') : wpList P ops Q (op :: rest) a w :=
  wpList_store_box hgd ty x y ho g o cells hx hy T cs hg hi hfit h1 fun w' hb hgr => h w' (hR w' hb hgr)
def egCells : List Value := egMsg.cells (.slice none 0 0) (.slice none 0 0) (.slice none 0 0)
set_option maxHeartbeats 2000000 in
set_option maxRecDepth 100000 in
theorem lives_any {w : World} (hT : Tab w) : Calls Tryz.prog 6 #[] w fun e w' => e = .returned (.bool true) ∧ Later w w' := by
  have C := hide (opbytes_any (F := fun _ => True) (x := egOp) (sA := none) (n := 0) (sc := 0) (w := w) eg_sm (by omega) (StepsAt.nil_ _ _))
  rw [egOp_bytes] at C
  have HT := hide hT
  clear hT
  go_enter Tryz.func6, Tryz.ntmps6
  go_wp2_with (fail)
  refine C.out.mono ?_
  rintro e w1 ⟨A1, n1, c1, rfl, _, hh1, _, l1⟩
  have HH1 := hide hh1
  have L1 := hide (show Later w w1 from l1)
  have D := hide (bytes_any (F := fun _ => True) (m := egMsg) (sv := .slice none 0 0) (ov := .slice none 0 0) (iv := .slice none 0 0) (w := w1) (by decide) ⟨StepsAt.nil_ _ _, OpsAt.nil_ _ _, IncsAt.nil_ _ _⟩ (HT.out.later l1))
  clear hh1 l1 C
  go_wp2_with (fail)
  refine D.out.mono ?_
  rintro e w2 ⟨A2, n2, c2, rfl, _, hh2, hc2, l2⟩
  have L2 := hide (L1.out.trans (show Later w1 w2 from l2))
  have HH12 := hide (HH1.out.later l2)
  have hn2 : n2 ≤ 90000 := by have h1 := hh2.1; have h2 := egMsg_len; omega
  have E := hide (readmsg_any hh2 hn2 hc2 (HT.out.later L2.out))
  rw [egMsg_read] at E
  clear hh2 l2 hn2 D
  go_wp2_with (fail)
  refine E.out.mono ?_
  rintro e w3 ⟨m, er, sv, ov, iv, hm, her, rfl, hls, l3⟩
  have L3 := hide (L2.out.trans l3)
  have HH3 := hide (HH12.out.later l3)
  subst hm her
  have HLS := hide hls
  have HA : Hid (Later w3 (w3.alloc (.cells zMsg 35 (0, 0)))) := Later.alloc _ _
  have HR : Hid (∀ w', w'.heap[w3.heap.size]? = some (.cells (putAt zMsg 0 (egMsg.cells sv ov iv).toArray.toList) 35 (0, 0)) → (w3.alloc (.cells zMsg 35 (0, 0))).grownBy w' (some w3.heap.size) →
      w'.cell? ⟨w3.heap.size, 0, none⟩ = some (.int .i64 5) ∧ w'.cell? ⟨w3.heap.size, 3, none⟩ = some (.int .i64 3) ∧ (convert 38 9 (.slice A1 n1 c1)).run Tryz.prog w' = .ok (.string ⟨#[2, 4, 4, 2]⟩) w' ∧ Hid (Later w3 w')) := fun w' hb hg => by
    have hb6 : w'.heap[w3.heap.size]? = some (.cells (egMsg.cells sv ov iv).toArray 35 (0, 0)) := by rw [hb, zMsg_put _ (egMsg.len sv ov iv)]
    have hl : Later w3 w' := (show Below w3.heap.size w3 (w3.alloc (.cells zMsg 35 (0, 0))) from HA.out).grown hg (Below.size HA.out) fun k hk => by have := Option.some.inj hk; omega
    exact ⟨box_at hb6 0 _ rfl, box_at hb6 3 _ rfl, run_str w' w'.heap.size A1 n1 c1 [2, 4, 4, 2] (HH3.out.later hl), hl⟩
  have hcell := HLS.out.cell
  have HCELL := hide hcell
  clear hls l3 E hcell
  go_wp2_with (refine wpList_store_more (by rfl) 35 _ _ (by rfl) w3.heap.size 0 (egMsg.cells sv ov iv).toArray (by rfl) (by rfl) 35 zMsg (heap_alloc_new w3 _) (by kernel_rfl) (by exact Nat.le_of_eq (egMsg.len sv ov iv)) (by exact egMsg.one HCELL.out.1 HCELL.out.2.1 HCELL.out.2.2) _ HR.out ?_; rintro w5 ⟨c0, c3, d1, l5⟩)
  go_ret
  exact ⟨rfl, L3.out.trans l5.out⟩
set_option maxHeartbeats 2000000 in
set_option maxRecDepth 100000 in
theorem small_law {F : Nat → Prop} {m : MsgD} {sv ov iv : Value} {w : World} (hw : m.wf) (h : Lists F w m sv ov iv) :
    Calls Tryz.prog 5 #[.agg (m.cells sv ov iv).toArray] w fun e w' => ∃ b : Bool, e = .returned (.bool b) ∧ (b = true → m.lightN 200 ∧ m.incs.length ≤ 200) ∧ Later w w' := by
  have hl : Later w (w.alloc (.cells (m.cells sv ov iv).toArray 35 (0, 0))) := Later.alloc _ _
  have C := hide (stepsn_any 200 (by omega) (by omega) F m sv ov iv _ hw (h.kept (Kept.of_below hl F)))
  have HX : Hid ((w.alloc (.cells (m.cells sv ov iv).toArray 35 (0, 0))).heap[w.heap.size]? = some (.cells (m.cells sv ov iv).toArray 35 (0, 0))) := heap_alloc_new _ _
  have HL := hide hl
  obtain ⟨iA, ic, hiv, hic, hic2, _⟩ := FlatAt.shape h.2.2
  unfold maxLen at hic2
  have hnm : m.op.name.size ≤ 140737488355328 := hw.2.2.2.2.2.2.2.2.2.1.2.2.2.1
  clear hw h hl
  subst hiv
  go_enter Tryz.func5, Tryz.ntmps5
  go_wp2_with (refine wpList_load_box (by rfl) 35 _ (by rfl) w.heap.size 0 (by rfl) 35 _ HX.out 34 _ Tryz.underlying35 (by rfl) (by kernel_rfl) (m.cells sv ov (.slice iA m.incs.length ic)) (by simp [List.take_of_length_le (Nat.le_of_eq (m.len sv ov (.slice iA m.incs.length ic)))]) (m.len sv ov _) ?_)
  refine C.out.mono ?_
  rintro e w1 ⟨n, rfl, hlt, l1⟩
  have HQ := hide hlt
  have HL1 := hide (HL.out.trans l1)
  have hx1 := (Below.block l1 _ (lt_of_block HX.out)).trans HX.out
  have c33 := box_at hx1 33 (.slice iA m.incs.length ic) rfl
  have c15 := box_at hx1 15 (.string m.op.name) rfl
  clear hlt l1 hx1 C
  by_cases h1 : n ≤ 200
  · by_cases h2 : m.incs.length ≤ 200
    · have H2 := hide h2
      by_cases h3 : (m.op.name.size : Int) ≤ 500
      · go_wp2
        go_ret
        exact ⟨true, rfl, fun _ => ⟨HQ.out h1, H2.out⟩, HL1.out⟩
      · have h3' : decide ((m.op.name.size : Int) ≤ 500) = false := decide_eq_false h3
        clear h3
        go_wp2
        go_ret
        exact ⟨_, rfl, (fun h => by cases h), HL1.out⟩
    · go_wp2
      go_ret
      first | exact ⟨false, rfl, (fun h => by cases h), HL1.out⟩ | exact ⟨rfl, HL1.out⟩ | exact .inl ⟨rfl, HL1.out⟩
  · go_wp2
    go_ret
    first | exact ⟨false, rfl, (fun h => by cases h), HL1.out⟩ | exact ⟨rfl, HL1.out⟩ | exact .inl ⟨rfl, HL1.out⟩
end Go.Proofs.YtehiaeihkdfclaaGreatDoor
/- What small inputs are; what is read of what was written. -/
namespace Go.Proofs.YtehiaeihkdfclaaGreatDoor
open Go.RowKit

/-- None of it is great. -/
theorem light_sm {o : OpD} (h : o.lightP 200) (hw : o.wf) : o.sm 4100 := by
  obtain ⟨h1, h2, h3⟩ := h
  exact ⟨hw.1, hw.2.1, hw.2.2.1, ⟨by show o.name.size ≤ 4100; omega, by show o.steps.length ≤ 4100; omega, fun s hs => ⟨by have := h3 s hs; omega, (hw.2.2.2.2.1 s hs).2⟩⟩, hw.2.2.2.2.2⟩
theorem light_def {o : OpD} (h : o.lightP 200) : proom (defF o.defn) ≤ 850000 := by
  obtain ⟨h1, h2, h3⟩ := h
  have p1 := proom_text 1 (nums o.name)
  have p2 := proom_map (fun s => prow 2 (stepB s)) 4200 o.steps fun s hs => by
    have := stepB_len s
    have := h3 s hs
    simp only [prow]
    omega
  rw [nums_len] at p1
  have h4 : o.steps.length * (20 + 4200) ≤ 200 * (20 + 4200) := Nat.mul_le_mul_right _ (by omega)
  have hz : proom [] = 0 := rfl
  simp only [defF, List.flatten_cons, List.flatten_nil, proom_append, hz]
  have e1 : o.defn.name = o.name := rfl
  have e2 : o.defn.steps = o.steps := rfl
  rw [e1, e2]
  generalize proom (ptext 1 (nums o.name)) = y1 at p1 ⊢
  generalize proom (o.steps.map fun s => prow 2 (stepB s)) = y2 at p2 ⊢
  omega
theorem light_defB {o : OpD} (h : o.lightP 200) : (defB o.defn).length ≤ 850000 := Nat.le_trans (prec_len _) (light_def h)
theorem light_opB {o : OpD} (h : o.lightP 200) : (opB o).length ≤ 900000 := by
  refine Nat.le_trans (prec_len _) ?_
  have h4 := Nat.le_trans (proom_text 4 (defB o.defn)) (Nat.add_le_add_left (light_defB h) 20)
  have h1 := proom_num 1 o.kind
  have h2 := proom_num 2 o.client
  have h3 := proom_num 3 o.request
  have h5 := proom_num 5 o.saga
  have h6 := proom_num 6 o.step
  have h7 := proom_num 7 o.try_
  have h8 := proom_flag 8 o.back
  have h9 := proom_flag 9 o.good
  have hz : proom [] = 0 := rfl
  simp only [opF, List.flatten_cons, List.flatten_nil, proom_append, hz]
  generalize proom (pnum 1 o.kind) = x1 at h1 ⊢
  generalize proom (pnum 2 o.client) = x2 at h2 ⊢
  generalize proom (pnum 3 o.request) = x3 at h3 ⊢
  generalize proom (ptext 4 (defB o.defn)) = x4 at h4 ⊢
  generalize proom (pnum 5 o.saga) = x5 at h5 ⊢
  generalize proom (pnum 6 o.step) = x6 at h6 ⊢
  generalize proom (pnum 7 o.try_) = x7 at h7 ⊢
  generalize proom (pflag 8 o.back) = x8 at h8 ⊢
  generalize proom (pflag 9 o.good) = x9 at h9 ⊢
  omega
/-- What is read of what was written. -/
theorem readOp_B {k : Nat} {o : OpD} (h : o.sm k) (hk : k ≤ 5000) : readOp (opB o) = if opG o = true then (0, o) else (4, .zero) := by
  unfold readOp
  have e1 : (pread (opB o)).1 = 0 := by unfold opB; rw [pread_fine (opF_fine h hk)]
  rw [if_neg (by rw [e1]; simp), opR_B h hk]
  simp
theorem readDef_B {k : Nat} {d : DefD} (h : d.sm k) (hk : k ≤ 5000) : readDef (defB d) = if defG d = true then (0, d) else (4, .zero) := by
  unfold readDef
  have e1 : (pread (defB d)).1 = 0 := by unfold defB; rw [pread_fine (defF_fine h hk)]
  rw [if_neg (by rw [e1]; simp), defR_B h hk]
  simp
theorem defG_op (x : OpD) : opG { OpD.zero with name := x.name, steps := x.steps } = defG x.defn := by
  unfold opG
  simp [OpD.zero, OpD.defn, mayB]
end Go.Proofs.YtehiaeihkdfclaaGreatDoor
/- Messages and their bytes, on data alone: good ones come back; they are apart. -/
namespace Go.Proofs.YtehiaeihkdfclaaGreatDoor
open Go.RowKit

theorem wf_op {m : MsgD} (h : m.wf) : m.op.wf := h.2.2.2.2.2.2.2.2.2.1
theorem sealed_some {l : List Nat} (h : l.length ≤ 65536) : sealed l ≠ [] := by
  intro e
  have := sealed_len h
  rw [e] at this
  simp at this
theorem bytesM_some {m : MsgD} : bytesM m ≠ [] ↔ msgG0 m = true ∧ (msgB m).length ≤ 65536 := by
  unfold bytesM
  by_cases h1 : msgG0 m = true
  · rw [if_pos h1]
    by_cases h2 : (msgB m).length ≤ 65536
    · exact ⟨fun _ => ⟨h1, h2⟩, fun _ => sealed_some h2⟩
    · refine ⟨fun h => absurd ?_ h, fun h => absurd h.2 h2⟩
      unfold sealed
      rw [if_pos (by omega)]
  · rw [if_neg h1]
    exact ⟨fun h => absurd rfl h, fun h => absurd h.1 h1⟩
theorem bytesM_is {m : MsgD} (h : bytesM m ≠ []) : bytesM m = sealed (msgB m) := by
  unfold bytesM
  rw [if_pos (bytesM_some.1 h).1]
theorem bytesM_len (m : MsgD) : (bytesM m).length ≤ 66000 := by
  by_cases h : bytesM m = []
  · rw [h]; simp
  · have h2 := (bytesM_some.1 h).2
    rw [bytesM_is h, sealed_len h2]
    have := enc_len (msgB m).length
    omega
theorem bytesM_small {m : MsgD} (hn : m.ops.length ≤ 100000) : ∀ x ∈ bytesM m, x < 256 := by
  intro x hx
  have h : bytesM m ≠ [] := fun e => by rw [e] at hx; cases hx
  rw [bytesM_is h] at hx
  exact sealed_small (msgB_small (msgG0_sm (bytesM_some.1 h).1 hn) (Nat.le_refl _)) x hx
/-- A good message comes back. -/
theorem readM_B {m : MsgD} (h : bytesM m ≠ []) (hn : m.ops.length ≤ 100000) : readM (bytesM m) = (0, m) := by
  obtain ⟨h1, h2⟩ := bytesM_some.1 h
  have ho : opn (bytesM m) = (msgB m, (sealed (msgB m)).length, 0) := by
    rw [bytesM_is h]
    have := opn_sealed [] h2
    rwa [List.append_nil] at this
  have hr : msgR (opn (bytesM m)).1 = m := by rw [ho]; exact msgR_B (msgG0_sm h1 hn) (Nat.le_refl _)
  rw [readM_3 (by rw [ho]) (by rw [hr]), hr]
theorem readM_nil : readM [] = (3, .zero) := by decide +kernel
/-- What was read is written so. -/
theorem readM_ok {l : List Nat} (h : (readM l).1 = 0) : bytesM (readM l).2 = l ∧ l ≠ [] ∧ (readM l).2.ops.length ≤ l.length := by
  unfold readM at h ⊢
  split at h
  · rename_i h1; exact absurd h h1
  · rename_i h1
    split at h
    · rename_i h2
      rw [if_neg h1, if_pos h2]
      refine ⟨h2, fun e => ?_, Nat.le_trans (msgR_ops _) (opn_len l)⟩
      subst e
      exact h1 (by decide)
    · cases h

theorem bytes_alike {a b : MsgD} (ha : bytesM a ≠ []) (hb : bytesM b ≠ []) (hna : a.ops.length ≤ 100000) (hnb : b.ops.length ≤ 100000) : ((str (bytesM a)).toList == (str (bytesM b)).toList) = decide (a = b) := by
  by_cases h : bytesM a = bytesM b
  · have e : a = b := by
      have h1 := readM_B ha hna
      rw [h, readM_B hb hnb] at h1
      exact (congrArg Prod.snd h1).symm
    rw [h, str_beq, e]
    simp
  · rw [str_bne (bytesM_small hna) (bytesM_small hnb) h]
    exact (decide_eq_false fun e => h (by rw [e])).symm
theorem ops_alike {x y : OpD} {k j : Nat} (hx : x.sm k) (hy : y.sm j) (hk : k ≤ 5000 := by omega) (hj : j ≤ 5000 := by omega) : ((str (opB x)).toList == (str (opB y)).toList) = decide (x = y) := by
  by_cases h : opB x = opB y
  · have e : x = y := by rw [← opR_B hx hk, h, opR_B hy hj]
    rw [h, str_beq, e]
    simp
  · rw [str_bne (opB_small hx hk) (opB_small hy hj) h]
    exact (decide_eq_false fun e => h (by rw [e])).symm
end Go.Proofs.YtehiaeihkdfclaaGreatDoor
