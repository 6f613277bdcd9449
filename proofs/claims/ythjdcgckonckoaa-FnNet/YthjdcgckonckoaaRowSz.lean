/-
  Contract of the laws' measuring of a list of texts: what is not below 0 bounds the list and each text.
-/
import Derived.Test.YthjdcgckonckoaaRow
import Derived.LoopTactic
namespace Go.Proofs.Ythjdcgckonckoaa
open Go.ChangeShapes Go.WideShapes Go.ChangeAt Go.RowKit
set_option linter.unusedVariables false
end Go.Proofs.Ythjdcgckonckoaa
