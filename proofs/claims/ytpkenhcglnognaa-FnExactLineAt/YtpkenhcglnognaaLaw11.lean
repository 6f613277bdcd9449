/-
  The laws' functions over ends, as the laws of chapter 11 want them.
-/
import Derived.Test.YtpkenhcglnognaaOpenConn
import Derived.Test.YtpkenhcglnognaaConnLaw
import Derived.Test.YtpkenhcglnognaaConnOkS
import Derived.Test.YtpkenhcglnognaaM3
import Derived.Test.YtpkenhcglnognaaStep
import Derived.Great.BuildSlice
namespace Go.Proofs.Ytpkenhcglnognaa
open Go.ChangeShapes Go.WideShapes Go.ChangeAt Go.RowKit Go.Deep
set_option linter.unusedVariables false
set_option maxRecDepth 10000
set_option maxRecDepth 10000

theorem lcn_big : IsBig 79 37 := ⟨⟨_, Try.underlying79, rfl⟩, by kernel_rfl⟩
end Go.Proofs.Ytpkenhcglnognaa
