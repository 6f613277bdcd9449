/-
  Contracts of impl's and spec's RttOk and of the laws' copying of a wait, at every wait.
-/
import Derived.Test.YtjilpicpfddbfabDoorM1
namespace Go.Proofs.YtjilpicpfddbfabDoor
open Go.ChangeShapes Go.WideShapes Go.ChangeAt Go.RowKit
set_option linter.unusedVariables false
set_option maxRecDepth 10000

/-- A wait as a value. -/
def rttVal (a : Bool) (s v h : Int) : Value := .agg #[.bool a, .int .i64 s, .int .i64 v, .int .i64 h]

theorem eqRtt (a : Bool) (s v h : Int) (w : World) :
    Calls Tryd.prog 32 #[rttVal a s v h, rttVal a s v h] w fun e w' => e = .returned (.bool true) ∧ Since w w' := by
  unfold rttVal
  go_enter Tryd.func32, Tryd.ntmps32
  go_wp2
  go_ret
  exact ⟨rfl, by repeat (first | exact Since.refl _ | apply Since.drew | apply Since.alloc)⟩
end Go.Proofs.YtjilpicpfddbfabDoor
