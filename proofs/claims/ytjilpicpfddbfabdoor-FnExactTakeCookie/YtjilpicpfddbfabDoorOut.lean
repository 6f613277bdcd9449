/-
  Contracts of the laws' functions over buffers of bytes to be sent, and of impl's and spec's OutOk.
-/
import Derived.Test.YtjilpicpfddbfabDoorM1
import Derived.Test.YtjilpicpfddbfabDoorAgg
namespace Go.Proofs.YtjilpicpfddbfabDoor
open Go.ChangeShapes Go.WideShapes Go.ChangeAt Go.RowKit Go.Deep
set_option linter.unusedVariables false
set_option maxRecDepth 10000

/-- A buffer of bytes to be sent, as a value. -/
def outVal (f : Int) (d : ByteArray) (r : Int) : Value := .agg #[.int .u32 f, .string d, .int .i64 r]

theorem eqOut (f : Int) (d : ByteArray) (r : Int) (w : World) :
    Calls Tryd.prog 30 #[outVal f d r, outVal f d r] w fun e w' => e = .returned (.bool true) ∧ Since w w' := by
  unfold outVal
  go_enter Tryd.func30, Tryd.ntmps30
  go_wp2
  go_ret
  exact ⟨rfl, ((Since.refl _).alloc _).alloc _⟩
end Go.Proofs.YtjilpicpfddbfabDoor
