/-
  Contract of impl's InOk.
-/
import Derived.Test.YtjilpicpfddbfabDoorInPure
import Derived.Test.YtjilpicpfddbfabDoorM1
import Derived.BigQuiet
namespace Go.Proofs.YtjilpicpfddbfabDoor
open Go.ChangeShapes Go.WideShapes Go.ChangeAt Go.RowKit Go.Deep
set_option linter.unusedVariables false
set_option maxRecDepth 10000
set_option maxRecDepth 10000

theorem isRoomI (x : Int) (w : World) :
    Calls Tryd.prog 49 #[.int .i64 x] w fun e w' => e = .returned (.bool (decide (1 ≤ x ∧ x ≤ 4096))) ∧ w = w' := by
  by_cases h1 : 1 ≤ x
  · have e1 : decide (1 ≤ x ∧ x ≤ 4096) = decide (x ≤ 4096) := by simp [h1]
    rw [e1]
    clear e1
    go_enter Tryd.func49, Tryd.ntmps49
    go_wp2
    go_ret
    exact ⟨rfl, rfl⟩
  · have e1 : decide (1 ≤ x ∧ x ≤ 4096) = false := by simp [h1]
    rw [e1]
    clear e1
    go_enter Tryd.func49, Tryd.ntmps49
    go_wp2
    go_ret
    exact ⟨rfl, rfl⟩
end Go.Proofs.YtjilpicpfddbfabDoor
