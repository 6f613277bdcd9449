/-
  Addresses as values, and the laws' copy of one.
-/
import Derived.Test.YtjilpicpfddbfabDoorM1
namespace Go.Proofs.YtjilpicpfddbfabDoor
open Go.ChangeShapes Go.WideShapes Go.ChangeAt Go.RowKit
set_option linter.unusedVariables false
set_option maxRecDepth 10000

/-- An address. -/
def addrVal (h p : Int) : Value := .agg #[.int .u32 h, .int .i64 p]

theorem toAddr (h p : Int) (w : World) :
    Calls Tryd.prog 7 #[addrVal h p] w fun e w' => e = .returned (addrVal h p) ∧ Since w w' := by
  unfold addrVal
  go_enter Tryd.func7, Tryd.ntmps7
  go_wp2
  refine bodyPost_ret (v := .agg #[.int .u32 h, .int .i64 p]) ?_ rfl ⟨rfl, by repeat (first | exact Since.refl _ | apply Since.drew | apply Since.alloc)⟩
  simp [results, go_sem]
end Go.Proofs.YtjilpicpfddbfabDoor
