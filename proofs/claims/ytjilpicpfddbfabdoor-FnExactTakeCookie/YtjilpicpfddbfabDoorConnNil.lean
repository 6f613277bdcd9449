/-
  The laws' functions over ends whose list of parts is none.
-/
import Derived.Test.YtjilpicpfddbfabDoorConnLaw
import Derived.Test.YtjilpicpfddbfabDoorSegTab
namespace Go.Proofs.YtjilpicpfddbfabDoor
open Go.ChangeShapes Go.WideShapes Go.ChangeAt Go.RowKit
set_option linter.unusedVariables false
set_option maxRecDepth 10000

/-- An end without parts. -/
def NoParts (c : Cn) : Prop := c.pa = none ∧ c.pn = 0 ∧ c.pc = 0

theorem mark0 (c : Cn) (h : NoParts c) (w : World) : Calls Tryd.prog 14 #[.agg (cnCells c), .int .i64 1] w fun e w' => e = .returned (.int .i64 1) ∧ Since w w' := by
  obtain ⟨h1, h2, h3⟩ := h
  have T : Own shP w w.heap.size (.slice c.pa c.pn c.pc) c.pn [] := by rw [h1, h2, h3]; exact Own.nil w _
  refine (markConn c w.heap.size [] 1 (by omega) (by omega) w T).mono ?_
  rintro _ w' ⟨rfl, ⟨x, g, gr⟩, -⟩
  refine ⟨by rw [h2]; rfl, g.trans ⟨gr.os, gr.tape, gr.output, gr.size, fun j hj => gr.block j hj ?_⟩⟩
  rw [h1]
  simp [Value.ownBlock]

theorem rd0 (c : Cn) (h : NoParts c) (w : World) : Rd shP w c.pa c.pn [] := by
  obtain ⟨h1, h2, h3⟩ := h
  rw [h1, h2]
  exact ⟨rfl, Nat.zero_le _, fun i hi => by cases hi⟩

theorem held0 (c : Cn) (h : NoParts c) (w : World) : Calls Tryd.prog 15 #[.agg (cnCells c), .int .i64 1] w fun e w' => e = .returned (.int .i64 1) ∧ Since w w' := by
  have h2 := h.2.1
  refine (heldConn c [] 1 (by omega) (by omega) w (rd0 c h w) (by rw [h2]; exact fun j hj => absurd hj (Nat.not_lt_zero j))).mono ?_
  rintro _ w' ⟨rfl, g⟩
  exact ⟨by rw [h2]; rfl, g⟩

theorem eq0 (c : Cn) (h : NoParts c) (w : World) : Calls Tryd.prog 13 #[.agg (cnCells c), .agg (cnCells c)] w fun e w' => e = .returned (.bool true) ∧ Since w w' :=
  eqConn c c.pa c.pc [] (by rw [h.2.1]; omega) w (rd0 c h w) (rd0 c h w)
end Go.Proofs.YtjilpicpfddbfabDoor
