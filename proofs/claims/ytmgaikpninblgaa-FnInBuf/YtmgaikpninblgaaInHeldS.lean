/-
  Contracts of spec's InHeld and InRoom.
-/
import Derived.Test.YtmgaikpninblgaaInOkS
import Derived.Test.YtmgaikpninblgaaSpn
namespace Go.Proofs.Ytmgaikpninblgaa
open Go.ChangeShapes Go.WideShapes Go.ChangeAt Go.RowKit Go.Deep
set_option linter.unusedVariables false
set_option maxRecDepth 10000
end Go.Proofs.Ytmgaikpninblgaa
