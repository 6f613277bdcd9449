/-
  Contracts of the laws' marking of a list of texts and of their looking for the marks.
-/
import Derived.Test.YthjdcgckonckoaaRowLaw
namespace Go.Proofs.Ythjdcgckonckoaa
open Go.ChangeShapes Go.WideShapes Go.ChangeAt Go.RowKit
set_option linter.unusedVariables false

/-- Text j of a list is the mark of k + j. -/
def Marked (k : Int) (n : Nat) (ss : List ByteArray) : Prop := ∀ j, j < n → txt ss j = markOf (k + j)

theorem txt_set_same (ss : List ByteArray) (i : Nat) (s : ByteArray) (h : i < ss.length) : txt (ss.set i s) i = s := by
  simp [txt, List.getD, h]

theorem txt_set_other (ss : List ByteArray) (i j : Nat) (s : ByteArray) (h : i ≠ j) : txt (ss.set i s) j = txt ss j := by
  simp [txt, List.getD, h]
end Go.Proofs.Ythjdcgckonckoaa
