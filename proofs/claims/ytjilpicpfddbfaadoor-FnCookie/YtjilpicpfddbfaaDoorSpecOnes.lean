/-
  Contracts of spec's OnesSum and of impl's and spec's Checksum, at every text.
-/
import Derived.Test.YtjilpicpfddbfaaDoorOnes
namespace Go.Proofs.YtjilpicpfddbfaaDoor
open Go.ChangeShapes Go.WideShapes Go.ChangeAt Go.RowKit
set_option linter.unusedVariables false
set_option maxRecDepth 10000

theorem ones_range (s : ByteArray) : -1 ≤ ones s ∧ ones s ≤ 65535 := by
  unfold ones
  split
  · omega
  · have h := foldOf_range _ (part_range (byteAt s) (byteAt_range s) s.size).1
    omega

theorem ones_neg (s : ByteArray) : ones s < 0 ↔ 2000 < s.size := by
  unfold ones
  split
  · omega
  · have h := foldOf_range _ (part_range (byteAt s) (byteAt_range s) s.size).1
    omega

/-- What Checksum answers. -/
def checksum (s : ByteArray) : Int := if 2000 < s.size then -1 else 65535 - ones s
end Go.Proofs.YtjilpicpfddbfaaDoor
