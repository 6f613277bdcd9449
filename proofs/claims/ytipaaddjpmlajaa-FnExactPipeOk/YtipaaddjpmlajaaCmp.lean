/-
  Contracts of impl's and spec's SeqDist, SeqLess, SeqLessEq, SeqMax over those of Seq: at every two words; no condition but that the arguments are words.
-/
import Derived.Test.YtipaaddjpmlajaaSeq
namespace Go.Proofs.Ytipaaddjpmlajaa
open Go.ChangeShapes Go.WideShapes Go.ChangeAt Go.RowKit
set_option linter.unusedVariables false
end Go.Proofs.Ytipaaddjpmlajaa
