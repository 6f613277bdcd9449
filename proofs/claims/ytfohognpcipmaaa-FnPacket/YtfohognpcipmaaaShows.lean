/-
  Contracts of impl's and spec's TurnShows, at every text of at most 1048576 bytes, every place and every number.
-/
import Derived.Test.YtfohognpcipmaaaTurn
namespace Go.Proofs.Ytfohognpcipmaaa
open Go.ChangeShapes Go.WideShapes Go.ChangeAt Go.RowKit
set_option linter.unusedVariables false

/-- What TurnShows answers. -/
def shows (s : ByteArray) (k x : Int) : Bool := (ones s).tmod 65535 != (ones (turnOf s k x)).tmod 65535

theorem turnOf_size (s : ByteArray) (k x : Int) : (turnOf s k x).size = s.size := by
  unfold turnOf
  split
  · exact textOf_size _ _
  · rfl

theorem texts_differ {t s : ByteArray} (h : t ≠ s) : (t.toList == s.toList) = false := by
  rw [beq_eq_false_iff_ne]
  intro e
  rw [ByteArray.toList_eq, ByteArray.toList_eq] at e
  exact h (bytes_inj e)
end Go.Proofs.Ytfohognpcipmaaa
