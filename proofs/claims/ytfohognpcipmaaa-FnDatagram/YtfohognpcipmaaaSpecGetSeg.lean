/-
  Contract of spec's GetSeg, at every text of at most 1048576 bytes.
-/
import Derived.Test.YtfohognpcipmaaaGetSegI
import Derived.Test.YtfohognpcipmaaaSpecPutSeg
import Derived.Test.YtfohognpcipmaaaHalves10
namespace Go.Proofs.Ytfohognpcipmaaa
open Go.ChangeShapes Go.WideShapes Go.ChangeAt Go.RowKit
set_option linter.unusedVariables false
end Go.Proofs.Ytfohognpcipmaaa
