/-
  Addresses as values, and the laws' copy of one.
-/
import Derived.Test.YtpkenhcglnognaaM1
namespace Go.Proofs.Ytpkenhcglnognaa
open Go.ChangeShapes Go.WideShapes Go.ChangeAt Go.RowKit
set_option linter.unusedVariables false
set_option maxRecDepth 10000

/-- An address. -/
def addrVal (h p : Int) : Value := .agg #[.int .u32 h, .int .i64 p]

theorem toAddr (h p : Int) (w : World) :
    Calls Try.prog 11 #[addrVal h p] w fun e w' => e = .returned (addrVal h p) ∧ Since w w' := by
  unfold addrVal
  go_enter Try.func11, Try.ntmps11
  go_wp2
  refine bodyPost_ret (v := .agg #[.int .u32 h, .int .i64 p]) ?_ rfl ⟨rfl, by repeat (first | exact Since.refl _ | apply Since.drew | apply Since.alloc)⟩
  simp [results, go_sem]
end Go.Proofs.Ytpkenhcglnognaa
