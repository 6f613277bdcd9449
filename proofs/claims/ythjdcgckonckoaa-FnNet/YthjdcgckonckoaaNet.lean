/-
  Contracts of the laws' functions over a net: copied, measured, held against another, marked.
-/
import Derived.Test.YthjdcgckonckoaaRowSz
import Derived.Test.YthjdcgckonckoaaRowTo
import Derived.Test.YthjdcgckonckoaaMarks
import Derived.Laws.ByValue
namespace Go.Proofs.Ythjdcgckonckoaa
open Go.ChangeShapes Go.WideShapes Go.ChangeAt Go.RowKit
set_option linter.unusedVariables false

/-- A net of our own, as a value: its texts. -/
def IsNet (B : Nat) (n cap : Nat) (ss : List ByteArray) (x : World) (v : Value) : Prop := ∃ g, v = .agg #[.slice (some ⟨g, 0, none⟩) n cap] ∧ Texts x B g n cap ss

theorem IsNet.since {B n cap : Nat} {ss : List ByteArray} {x x' : World} {v : Value} (h : IsNet B n cap ss x v) (k : Since x x') : IsNet B n cap ss x' v := by
  obtain ⟨g, e, T⟩ := h
  exact ⟨g, e, T.since k⟩
end Go.Proofs.Ythjdcgckonckoaa
