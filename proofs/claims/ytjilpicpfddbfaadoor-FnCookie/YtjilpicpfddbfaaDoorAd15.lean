/-
  Addresses as values, and the laws' copy of one.
-/
import Derived.Test.YtjilpicpfddbfaaDoorFold
import Derived.Test.YtjilpicpfddbfaaDoorPkt
namespace Go.Proofs.YtjilpicpfddbfaaDoor
open Go.ChangeShapes Go.WideShapes Go.ChangeAt Go.RowKit
set_option linter.unusedVariables false
set_option maxRecDepth 10000

/-- An address. -/
def addrVal (h p : Int) : Value := .agg #[.int .u32 h, .int .i64 p]
end Go.Proofs.YtjilpicpfddbfaaDoor
