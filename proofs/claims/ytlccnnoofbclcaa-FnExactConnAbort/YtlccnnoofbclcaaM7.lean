/-
  Contracts of impl's methods of a wait, of impl's RttSample and RttBack, at every wait.
  Contracts of impl's methods of a wait that tell how long to wait, and of impl's RttWait.
  Contracts of spec's RttSample, RttBack and RttWait, at every wait.
-/
import Derived.Test.YtlccnnoofbclcaaRttB
import Derived.Test.YtlccnnoofbclcaaRow
import Derived.Test.YtlccnnoofbclcaaM1
namespace Go.Proofs.Ytlccnnoofbclcaa
open Go.ChangeShapes Go.WideShapes Go.ChangeAt Go.RowKit
set_option linter.unusedVariables false
set_option maxRecDepth 10000

/-- What RttSample answers: at a wait that is right and an answer's time, and elsewhere. -/
def sampleS (a : Bool) (s r : Int) : Int := if a then s + (r - s / 8) else 8 * r

/-- How much the time varies then. -/
def sampleV (a : Bool) (s v r : Int) : Int := if a then v + (max (r - s / 8) (-(r - s / 8)) - v / 4) else 2 * r
end Go.Proofs.Ytlccnnoofbclcaa

namespace Go.Proofs.Ytlccnnoofbclcaa
open Go.ChangeShapes Go.WideShapes Go.ChangeAt Go.RowKit
set_option linter.unusedVariables false
set_option maxRecDepth 10000
set_option maxRecDepth 10000

/-- How long to wait when nothing has failed yet. -/
def baseOf (a : Bool) (s v : Int) : Int := if a then max (s / 8 + max 1 v) 2 else 10

/-- How long to wait. -/
def waitOf (a : Bool) (s v d : Int) : Int := if rttOk a s v d then min (baseOf a s v * 2 ^ d.toNat) 600 else 10
end Go.Proofs.Ytlccnnoofbclcaa

namespace Go.Proofs.Ytlccnnoofbclcaa
open Go.ChangeShapes Go.WideShapes Go.ChangeAt Go.RowKit
set_option linter.unusedVariables false
set_option maxRecDepth 10000
end Go.Proofs.Ytlccnnoofbclcaa
