/-
  A clock that came in as data, opened: its list of timers can be read.
-/
import Derived.Test.YtgdhdeadbmeejaaTim
import Derived.Test.YtgdhdeadbmeejaaOpenNet
namespace Go.Proofs.Ytgdhdeadbmeejaa
open Go.ChangeShapes Go.WideShapes Go.ChangeAt Go.RowKit Go.Deep
set_option linter.unusedVariables false
set_option maxRecDepth 10000
end Go.Proofs.Ytgdhdeadbmeejaa
