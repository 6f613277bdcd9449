/-
  What OutDone answers; contract of spec's.
-/
import Derived.Test.YtlccnnoofbclcaaOutSpec
namespace Go.Proofs.Ytlccnnoofbclcaa
open Go.ChangeShapes Go.WideShapes Go.ChangeAt Go.RowKit Go.Deep
set_option linter.unusedVariables false
set_option maxRecDepth 10000
set_option maxRecDepth 10000

/-- Whether OutDone takes bytes away. -/
def doneOk (d : ByteArray) (r at' : Int) : Prop := outOk d r = true ∧ 0 ≤ at' ∧ at' ≤ d.size

instance (d : ByteArray) (r at' : Int) : Decidable (doneOk d r at') := by unfold doneOk; infer_instance

/-- What OutDone leaves: First, Data and how many. -/
def doneF (f : Int) (d : ByteArray) (r q at' : Int) : Int := if doneOk d r at' then q else f

def doneD (d : ByteArray) (r at' : Int) : ByteArray := if doneOk d r at' then d.extract at'.toNat d.size else d

def doneN (d : ByteArray) (r at' : Int) : Int := if doneOk d r at' then at' else 0
end Go.Proofs.Ytlccnnoofbclcaa
