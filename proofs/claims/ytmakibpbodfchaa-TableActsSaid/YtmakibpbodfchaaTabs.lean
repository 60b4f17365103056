/- Tables as plain data: what is remembered of each client, and what each call makes of it; in memory: a block that is known whole. -/
import Derived.Test.YtmakibpbodfchaaBox
import Derived.Test.YtmakibpbodfchaaProg
import Derived.Test.YtmakibpbodfchaaRows
import Derived.Lib.MinMax
namespace Go.Proofs.Ytmakibpbodfchaa
open Go.RowKit

/-- A reply. -/
structure Rep where
  err : Int
  saga : Int
  st : Int
  step : Int
  deriving DecidableEq
def Rep.zero : Rep := ⟨0, 0, 0, 0⟩
def Rep.cells (r : Rep) : List Value := [.int .i64 r.err, .int .i64 r.saga, .int .i64 r.st, .int .i64 r.step]
abbrev Rep.val (r : Rep) : Value := .agg r.cells.toArray
theorem Rep.one (r : Rep) : ∀ u ∈ r.cells, u.oneCell' = true := by
  intro u hu
  simp only [Rep.cells, List.mem_cons, List.not_mem_nil, or_false] at hu
  rcases hu with rfl | rfl | rfl | rfl <;> rfl

/-- What is remembered of a client. -/
structure Mry where
  last : Int
  done : Int
  rep : Rep
  deriving DecidableEq
def Mry.zero : Mry := ⟨0, 0, .zero⟩
def Mry.cells (m : Mry) : List Value := [.int .i64 m.last, .int .i64 m.done, .int .i64 m.rep.err, .int .i64 m.rep.saga, .int .i64 m.rep.st, .int .i64 m.rep.step]
abbrev Mry.val (m : Mry) : Value := .agg m.cells.toArray
theorem Mry.one (m : Mry) : ∀ u ∈ m.cells, u.oneCell' = true := by
  intro u hu
  simp only [Mry.cells, List.mem_cons, List.not_mem_nil, or_false] at hu
  rcases hu with rfl | rfl | rfl | rfl | rfl | rfl <;> rfl
def Mry.started (m : Mry) (r : Int) : Mry := ⟨max m.last r, m.done, m.rep⟩
def Mry.finished (m : Mry) (r : Int) (x : Rep) : Mry := ⟨max m.last r, r, x⟩
def Mry.forgotten (m : Mry) : Mry := ⟨m.done, m.done, m.rep⟩

/-- A table. -/
structure Tab where
  a : Mry
  b : Mry
  c : Mry
  d : Mry
def Tab.zero : Tab := ⟨.zero, .zero, .zero, .zero⟩
def Tab.cells (T : Tab) : List Value := .bool true :: (T.a.cells ++ T.b.cells ++ T.c.cells ++ T.d.cells)
def isC (c : Int) : Bool := decide (1 ≤ c) && decide (c ≤ 4)
def okC (c r : Int) : Bool := isC c && decide (1 ≤ r)
def Tab.get (T : Tab) (c : Int) : Mry := if c = 1 then T.a else if c = 2 then T.b else if c = 3 then T.c else T.d
def Tab.of (T : Tab) (c : Int) : Mry := if isC c then T.get c else .zero
def Tab.put (T : Tab) (c : Int) (m : Mry) : Tab := if c = 1 then ⟨m, T.b, T.c, T.d⟩ else if c = 2 then ⟨T.a, m, T.c, T.d⟩ else if c = 3 then ⟨T.a, T.b, m, T.d⟩ else ⟨T.a, T.b, T.c, m⟩
def Tab.forgotten (T : Tab) : Tab := ⟨T.a.forgotten, T.b.forgotten, T.c.forgotten, T.d.forgotten⟩
def askM (m : Mry) (r : Int) : Int × Rep := if r = m.done then (3, m.rep) else if r = m.last then (2, .zero) else if m.last < r then (1, .zero) else (4, .zero)
def askT (T : Tab) (c r : Int) : Int × Rep := if okC c r then askM (T.of c) r else (4, .zero)
def startT (T : Tab) (c r : Int) : Int × Tab := if okC c r then (if r ≤ (T.of c).last then (10, T) else (0, T.put c ((T.of c).started r))) else (2, T)
def finishT (T : Tab) (c r : Int) (x : Rep) : Int × Tab := if okC c r then (if r < (T.of c).done then (10, T) else if r = (T.of c).done then (9, T) else (0, T.put c ((T.of c).finished r x))) else (2, T)

theorem isC_cases {c : Int} (h : isC c = true) : c = 1 ∨ c = 2 ∨ c = 3 ∨ c = 4 := by
  unfold isC at h
  simp at h
  omega
theorem isC_mk {c : Int} (h1 : 1 ≤ c) (h2 : c ≤ 4) : isC c = true := by
  unfold isC
  simp [h1, h2]
theorem isC_no {c : Int} (h : ¬ (1 ≤ c ∧ c ≤ 4)) : isC c = false := by
  unfold isC
  simp
  omega
theorem okC_mk {c r : Int} (h1 : isC c = true) (h2 : 1 ≤ r) : okC c r = true := by
  unfold okC
  simp [h1, h2]
theorem okC_no {c r : Int} (h : isC c = false ∨ ¬ 1 ≤ r) : okC c r = false := by
  unfold okC
  rcases h with h | h
  · simp [h]
  · simp
    omega
theorem okC_and {c r : Int} (h : okC c r = true) : isC c = true ∧ 1 ≤ r := by
  unfold okC at h
  simpa using h

/-- The block g holds this table; it lies above B. -/
def TabAt (w : World) (g : Nat) (T : Tab) : Prop := w.heap[g]? = some (.cells T.cells.toArray 52 (0, 0))
/-- No call made it: nil, or a block of noughts. -/
def zeroTab : List Value := .bool false :: (Mry.zero.cells ++ Mry.zero.cells ++ Mry.zero.cells ++ Mry.zero.cells)
def NoTab (w : World) (p : Value) : Prop := p = .pointer none ∨ ∃ g, p = .pointer (some ⟨g, 0, none⟩) ∧ w.heap[g]? = some (.cells zeroTab.toArray 52 (0, 0))
section
variable {w w' : World} {g : Nat} {T : Tab} {p : Value}
theorem TabAt.lt (h : TabAt w g T) : g < w.heap.size := lt_of_block h
theorem TabAt.later (h : TabAt w g T) (hb : Below w.heap.size w w') : TabAt w' g T := (hb.block g h.lt).trans h
theorem TabAt.other (h : TabAt w g T) {r : Option Nat} (hg : w.grownBy w' r) (hr : some g ≠ r) : TabAt w' g T := (hg.block g h.lt hr).trans h
theorem TabAt.made (h : TabAt w g T) : w.cell? ⟨g, 0, none⟩ = some (.bool true) := by
  rw [cell_of_row w g 0 _ _ _ h]
  rfl
theorem TabAt.drewN (h : TabAt w g T) (n : Nat) : TabAt (w.drewN n) g T := h
theorem NoTab.later (h : NoTab w p) (hb : Below w.heap.size w w') : NoTab w' p := by
  rcases h with h | ⟨g, h1, h2⟩
  · exact .inl h
  · exact .inr ⟨g, h1, (hb.block g (lt_of_block h2)).trans h2⟩
theorem NoTab.drewN (h : NoTab w p) (n : Nat) : NoTab (w.drewN n) p := h
end
theorem tab_part1 (T : Tab) : (T.cells.toArray.toList.drop 1).take 6 = T.a.cells := rfl
theorem tab_part2 (T : Tab) : (T.cells.toArray.toList.drop 7).take 6 = T.b.cells := rfl
theorem tab_part3 (T : Tab) : (T.cells.toArray.toList.drop 13).take 6 = T.c.cells := rfl
theorem tab_part4 (T : Tab) : (T.cells.toArray.toList.drop 19).take 6 = T.d.cells := rfl
theorem tab_put1 (T : Tab) (m : Mry) : putAt T.cells.toArray 1 m.cells = (T.put 1 m).cells.toArray := by simp [Tab.put, Tab.cells, Mry.cells, putAt]
theorem tab_put2 (T : Tab) (m : Mry) : putAt T.cells.toArray 7 m.cells = (T.put 2 m).cells.toArray := by simp [Tab.put, Tab.cells, Mry.cells, putAt]
theorem tab_put3 (T : Tab) (m : Mry) : putAt T.cells.toArray 13 m.cells = (T.put 3 m).cells.toArray := by simp [Tab.put, Tab.cells, Mry.cells, putAt]
theorem tab_put4 (T : Tab) (m : Mry) : putAt T.cells.toArray 19 m.cells = (T.put 4 m).cells.toArray := by simp [Tab.put, Tab.cells, Mry.cells, putAt]

/-- Where client c's memory lies. -/
def offC (c : Int) : Nat := 1 + (c.toNat - 1) * 6
theorem tab_part (T : Tab) {c : Int} (h : isC c = true) : (T.cells.toArray.toList.drop (offC c)).take 6 = (T.of c).cells := by
  rcases isC_cases h with rfl | rfl | rfl | rfl <;> rfl
theorem tab_put (T : Tab) {c : Int} (h : isC c = true) (m : Mry) : putAt T.cells.toArray (offC c) m.cells = (T.put c m).cells.toArray := by
  rcases isC_cases h with rfl | rfl | rfl | rfl
  · exact tab_put1 T m
  · exact tab_put2 T m
  · exact tab_put3 T m
  · exact tab_put4 T m

/-- Results: a plain one, and a struct in a block of its own. -/
theorem results_12 {P : Program} {fn : Func} {p q : Tmp} {ty : TypeId} (h : fn.results = #[.tmp p, .cell q ty]) (tmps : Array Value) (w : World) (g : Nat) (T : TypeId) (cs : Array Value) (d : TypeDesc)
    (hp : tmps.getD q undef = .pointer (some ⟨g, 0, none⟩)) (hg : w.heap[g]? = some (.cells cs T (0, 0)))
    (hu : P.underlying ty = some d) (hd : (match d with | .struct _ | .array _ _ => true | _ => false) = true) (hi : (P.info? ty).map (·.size) = some cs.size) (v : Value) (hv : tmps.getD p undef = v) :
    (results fn tmps).run P w = .ok (.tuple #[v, .agg cs]) w := by
  have hp' : tmps[q]?.getD undef = .pointer (some ⟨g, 0, none⟩) := by simpa using hp
  have hv' : tmps[p]?.getD undef = v := by simpa using hv
  simp [results, h, hp', hv', asAddr, run_loadVar_row w g T ty cs (0, 0) d hg hu hd hi]
end Go.Proofs.Ytmakibpbodfchaa
