/-
  Contracts of impl's and spec's Turned, at every text of at most 1048576 bytes, every place and every number.
-/
import Derived.Test.YtomnjegldbopiaaOnes
import Derived.Laws.IdiomStrings
import Derived.Laws.BytesArg
import Derived.Lib.LazyBuf
import Derived.WalkLawsBesides
namespace Go.Proofs.Ytomnjegldbopiaa
open Go.ChangeShapes Go.WideShapes Go.ChangeAt Go.RowKit
set_option linter.unusedVariables false
set_option maxRecDepth 10000

/-- The text of the first n of the numbers f 0, f 1 .. -/
def textOf (f : Nat → Int) (n : Nat) : ByteArray := strOfNums ((List.range n).map f)

theorem textOf_size (f : Nat → Int) (n : Nat) : (textOf f n).size = n := by
  simp [textOf, strOfNums_size]

theorem bytesBack (f : Nat → Int) (n cap b : Nat) (w : World) (hc : ∀ i, i < n → w.cell? ⟨b, i, none⟩ = some (.int .u8 (f i))) :
    (convert 83 9 (.slice (some ⟨b, 0, none⟩) n cap)).run Try.prog w = .ok (.string (textOf f n)) w := by
  refine run_convert_bytes_arg _ 83 5 Try.underlying83 Try.underlying5 b 0 n cap _ (by simp) ?_ 9 Try.underlying9
  intro i hi
  rw [Nat.zero_add, hc i hi]
  simp [List.getD, hi]
end Go.Proofs.Ytomnjegldbopiaa
