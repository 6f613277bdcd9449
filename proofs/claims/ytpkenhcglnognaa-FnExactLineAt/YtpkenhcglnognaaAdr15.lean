/-
  Addresses as blocks.
-/
import Derived.Test.YtpkenhcglnognaaAd15
import Derived.Test.YtpkenhcglnognaaVl
namespace Go.Proofs.Ytpkenhcglnognaa
open Go.ChangeShapes Go.WideShapes Go.ChangeAt Go.RowKit Go.Deep
set_option linter.unusedVariables false
set_option maxRecDepth 10000

theorem ad_big : IsBig 37 2 := ⟨⟨_, Try.underlying37, rfl⟩, by kernel_rfl⟩

theorem lad_big : IsBig 35 2 := ⟨⟨_, Try.underlying35, rfl⟩, by kernel_rfl⟩
end Go.Proofs.Ytpkenhcglnognaa
