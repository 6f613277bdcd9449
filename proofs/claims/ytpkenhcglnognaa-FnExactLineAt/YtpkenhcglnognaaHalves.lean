/-
  Contracts of impl's halves (a function that tells the halves of a text to a yield) and of its OnesSum, at every text.
-/
import Derived.Test.YtpkenhcglnognaaM1
import Derived.RangeFuncNested
import Derived.RangeFuncBound
import Derived.RangeFuncCalls
import Derived.RangeFuncLeaves
import Derived.Shelf.Abstract
import Derived.Shelf.RegionOpen
import Derived.OwnWalkIn
import Derived.TacticsInMore
import Derived.LoopNIn
import Derived.LoopIn
namespace Go.Proofs.Ytpkenhcglnognaa
open Go.ChangeShapes Go.WideShapes Go.ChangeAt Go.RowKit Go.Shelf
attribute [local go_sem] Oper.semAt_some
set_option linter.unusedVariables false
set_option maxRecDepth 10000

/-- The sum of the first bytes, those at even places high. -/
def part (f : Nat → Int) : Nat → Int
  | 0 => 0
  | i + 1 => part f i + (if i % 2 = 0 then 256 * f i else f i)

/-- Byte i of a text; 0 behind its end. -/
def byteAt (s : ByteArray) (i : Nat) : Int := if h : i < s.size then (s[i].toNat : Int) else 0
end Go.Proofs.Ytpkenhcglnognaa
