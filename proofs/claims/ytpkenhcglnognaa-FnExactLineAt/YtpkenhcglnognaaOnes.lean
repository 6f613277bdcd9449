/-
  Contract of impl's OnesSum, at every text.
-/
import Derived.Test.YtpkenhcglnognaaHalves
namespace Go.Proofs.Ytpkenhcglnognaa
open Go.ChangeShapes Go.WideShapes Go.ChangeAt Go.RowKit Go.Shelf
attribute [local go_sem] Oper.semAt_some
set_option linter.unusedVariables false
set_option maxRecDepth 10000

/-- What OnesSum answers. -/
def ones (s : ByteArray) : Int := if 2000 < s.size then -1 else foldOf (part (byteAt s) s.size)
end Go.Proofs.Ytpkenhcglnognaa
