/-
  Contracts of the laws' functions over buffers of bytes that came: their lists of parts measured, copied, held against another, marked, the marks looked for.
-/
import Derived.Test.YtjilpicpfddbfaaDoorTab
import Derived.Test.YtjilpicpfddbfaaDoorCalm
import Derived.Test.YtjilpicpfddbfaaDoorMark
import Derived.Laws.ByValue
import Derived.Maps.RangeWalk
namespace Go.Proofs.YtjilpicpfddbfaaDoor
open Go.ChangeShapes Go.WideShapes Go.ChangeAt Go.RowKit Go.Deep
set_option linter.unusedVariables false
set_option maxRecDepth 10000

/-- Part i. -/
def pAt (ps : List (Int × ByteArray)) (i : Nat) : Int × ByteArray := ps.getD i (0, ByteArray.empty)

/-- A buffer of bytes that came, as a value. -/
def inVal (q : Int) (d : ByteArray) (v : Value) (r : Int) : Value := .agg #[.int .u32 q, .string d, v, .int .i64 r]

/-- Part j is marked by k + 2 j and the number behind it. -/
def MarkedP (k : Int) (n : Nat) (ps : List (Int × ByteArray)) : Prop := ∀ j, j < n → pAt ps j = (k + 2 * (j : Int), markOf (k + 2 * (j : Int) + 1))

theorem pAt_set_same (ps : List (Int × ByteArray)) (i : Nat) (x : Int × ByteArray) (h : i < ps.length) : pAt (ps.set i x) i = x := by
  simp [pAt, List.getD, h]

theorem pAt_set_other (ps : List (Int × ByteArray)) (i j : Nat) (x : Int × ByteArray) (h : i ≠ j) : pAt (ps.set i x) j = pAt ps j := by
  simp [pAt, List.getD, h]
end Go.Proofs.YtjilpicpfddbfaaDoor
