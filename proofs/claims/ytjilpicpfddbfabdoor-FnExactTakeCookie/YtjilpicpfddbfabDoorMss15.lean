/-
  The eight steps: contracts of spec's and impl's MssOf and MssStep, where the table holds what the program's text lays.
-/
import Derived.Test.YtjilpicpfddbfabDoorCk15
namespace Go.Proofs.YtjilpicpfddbfabDoor
open Go.ChangeShapes Go.WideShapes Go.ChangeAt Go.RowKit Go.Deep
set_option linter.unusedVariables false
set_option maxRecDepth 10000

/-- Step i. -/
def mssAt (i : Nat) : Int := [64, 128, 256, 400, 536, 800, 1200, 1460].getD i 0

/-- The table is laid. -/
structure LaidM (w : World) : Prop where
  at' : ∀ i, i < 8 → w.cell? ⟨0, i, none⟩ = some (.int .i64 (mssAt i))

theorem LaidM.lt {w : World} (h : LaidM w) : 0 < w.heap.size := by
  have := h.at' 0 (by decide)
  rcases Nat.lt_or_ge 0 w.heap.size with h0 | h1
  · exact h0
  · rw [World.cell?] at this
    simp [Array.getElem?_eq_none h1] at this

theorem LaidM.since {w x : World} (h : LaidM w) (g : Since w x) : LaidM x := ⟨fun i hi => (Below.cell g (p := ⟨0, i, none⟩) h.lt).trans (h.at' i hi)⟩

theorem LaidM.touch {w x : World} {b : Nat} (h : LaidM w) (t : Touch b w x) (hb : b ≠ 0) : LaidM x := ⟨fun i hi => (t.cell (p := ⟨0, i, none⟩) (by simpa using hb.symm) h.lt).trans (h.at' i hi)⟩
end Go.Proofs.YtjilpicpfddbfabDoor
