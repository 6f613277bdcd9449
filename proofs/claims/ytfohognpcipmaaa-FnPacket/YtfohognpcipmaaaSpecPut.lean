/-
  The contract of spec's PutWord, at every word.
-/
import Derived.Test.YtfohognpcipmaaaPut
namespace Go.Proofs.Ytfohognpcipmaaa
open Go.ChangeShapes Go.WideShapes Go.ChangeAt Go.RowKit
set_option linter.unusedVariables false

theorem specPutWord (x : Int) (hx : 0 ≤ x) (hx' : x < 4294967296) (w : World) :
    Calls Try.prog 52 #[.int .u32 x] w fun e w' => e = .returned (.string (strOfNums [x / 16777216, x / 65536 % 256, x / 256 % 256, x % 256])) ∧ Newer w w' := by
  have hc := conv4
  go_enter Try.func52, Try.ntmps52
  go_wp2
  go_ret
  exact ⟨rfl, by repeat (first | exact Newer.refl _ | apply Newer.drew | apply Newer.alloc)⟩
end Go.Proofs.Ytfohognpcipmaaa
