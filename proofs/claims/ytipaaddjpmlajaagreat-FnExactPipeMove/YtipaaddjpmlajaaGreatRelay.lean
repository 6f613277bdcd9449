/-
  Two pipes: the laws' functions over them, and both sides' RelayStart and RelayHeld.
-/
import Derived.Test.YtipaaddjpmlajaaGreatPipe
import Derived.Test.YtipaaddjpmlajaaGreatM10
import Derived.Test.YtipaaddjpmlajaaGreatCalm
import Derived.Great.BuildSlice
import Derived.Deep.DeepCutAuto
namespace Go.Proofs.YtipaaddjpmlajaaGreat
open Go.ChangeShapes Go.WideShapes Go.ChangeAt Go.RowKit Go.Deep
set_option linter.unusedVariables false
set_option maxRecDepth 10000
set_option linter.unusedSimpArgs false

theorem pp_big : IsBig 38 4 := ⟨⟨_, Tryz.underlying38, rfl⟩, by kernel_rfl⟩

theorem lpp_big : IsBig 23 4 := ⟨⟨_, Tryz.underlying23, rfl⟩, by kernel_rfl⟩
end Go.Proofs.YtipaaddjpmlajaaGreat
