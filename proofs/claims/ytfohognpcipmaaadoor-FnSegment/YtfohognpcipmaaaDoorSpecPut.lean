/-
  The contract of spec's PutWord, at every word.
-/
import Derived.Test.YtfohognpcipmaaaDoorPut
namespace Go.Proofs.YtfohognpcipmaaaDoor
open Go.ChangeShapes Go.WideShapes Go.ChangeAt Go.RowKit
set_option linter.unusedVariables false
end Go.Proofs.YtfohognpcipmaaaDoor
