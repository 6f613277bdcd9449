/-
  impl's ConnAsk.
-/
import Derived.Test.YtjilpicpfddbfabDoorConnStartI
import Derived.Test.YtjilpicpfddbfabDoorInOkI
import Derived.Deep.DeepCutAuto
namespace Go.Proofs.YtjilpicpfddbfabDoor
open Go.ChangeShapes Go.WideShapes Go.ChangeAt Go.RowKit
set_option linter.unusedVariables false
set_option maxRecDepth 10000

theorem isTickI (x : Int) (w : World) :
    Calls Tryd.prog 40 #[.int .i64 x] w fun e w' => e = .returned (.bool (decide (0 ≤ x ∧ x ≤ 1000000000))) ∧ w = w' := by
  by_cases h1 : 0 ≤ x
  · have e1 : decide (0 ≤ x ∧ x ≤ 1000000000) = decide (x ≤ 1000000000) := by simp [h1]
    rw [e1]
    clear e1
    go_enter Tryd.func40, Tryd.ntmps40
    go_wp2
    go_ret
    exact ⟨rfl, rfl⟩
  · have e1 : decide (0 ≤ x ∧ x ≤ 1000000000) = false := by simp [h1]
    rw [e1]
    clear e1
    go_enter Tryd.func40, Tryd.ntmps40
    go_wp2
    go_ret
    exact ⟨rfl, rfl⟩
end Go.Proofs.YtjilpicpfddbfabDoor
