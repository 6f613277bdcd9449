/-
  The variable that errors.As reads is laid.
-/
import Derived.Test.YtjilpicpfddbfabDoorFit
namespace Go.Proofs.YtjilpicpfddbfabDoor
open Go.ChangeShapes Go.WideShapes Go.ChangeAt Go.RowKit
set_option linter.unusedVariables false
set_option maxRecDepth 10000

/-- The variable that errors.As reads is laid. -/
structure Laid0 (w : World) : Prop where
  at0 : w.cell? ⟨1, 0, none⟩ = some (.iface 112 (.agg #[.pointer (some ⟨2, 57, none⟩)]))

theorem Laid0.lt {w : World} (h : Laid0 w) : 1 < w.heap.size := by
  exact World.block_lt_of_cell? w _ h.at0

theorem Laid0.touch {w x : World} {b : Nat} (h : Laid0 w) (t : Touch b w x) (hb : b ≠ 1) : Laid0 x := ⟨by
  rw [t.cell (p := ⟨1, 0, none⟩) (by simpa using hb.symm) h.lt]
  exact h.at0⟩

theorem Laid0.since {w x : World} (h : Laid0 w) (g : Since w x) : Laid0 x := h.touch (touch_of (b := w.heap.size) g) (by have := h.lt; omega)
end Go.Proofs.YtjilpicpfddbfabDoor
