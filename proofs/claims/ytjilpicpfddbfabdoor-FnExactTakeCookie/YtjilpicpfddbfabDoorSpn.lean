/-
  Lists of spans; contracts of impl's spansOf, bytesIn and InHeld.
-/
import Derived.Test.YtjilpicpfddbfabDoorInOkI
import Derived.Test.YtjilpicpfddbfabDoorTabApp
namespace Go.Proofs.YtjilpicpfddbfabDoor
open Go.ChangeShapes Go.WideShapes Go.ChangeAt Go.RowKit Go.Deep
set_option linter.unusedVariables false
set_option maxRecDepth 10000
set_option maxRecDepth 10000

/-- What InRoom answers. -/
def inRoomN (q : Int) (d : ByteArray) (r : Int) (ps : List (Int × ByteArray)) : Int := if inOk q d r ps = true then r - d.size else 0

theorem inOk_room {q : Int} {d : ByteArray} {r : Int} {ps : List (Int × ByteArray)} (h : inOk q d r ps = true) : (1 ≤ r ∧ r ≤ 4096) ∧ (d.size : Int) ≤ r ∧ okB 0 (r - d.size) (spans q ps) = true := by
  simpa [inOk] using h
end Go.Proofs.YtjilpicpfddbfabDoor
