/-
  Contracts of impl's and spec's SegOk and SegSpan, of the flags of a segment, and of the laws' copying of a segment, at every segment.
-/
import Derived.Test.YtpkenhcglnognaaM1
namespace Go.Proofs.Ytpkenhcglnognaa
open Go.ChangeShapes Go.WideShapes Go.ChangeAt Go.RowKit
set_option linter.unusedVariables false
set_option maxRecDepth 10000

theorem isPort (n : Int) (w : World) :
    Calls Try.prog 35 #[.int .i64 n] w fun e w' => e = .returned (.bool (decide (1 ≤ n ∧ n ≤ 65535))) ∧ w = w' := by
  by_cases h1 : 1 ≤ n
  · have e1 : decide (1 ≤ n ∧ n ≤ 65535) = decide (n ≤ 65535) := by simp [h1]
    rw [e1]
    clear e1
    go_enter Try.func35, Try.ntmps35
    go_wp2
    go_ret
    exact ⟨rfl, rfl⟩
  · have e1 : decide (1 ≤ n ∧ n ≤ 65535) = false := by simp [h1]
    rw [e1]
    clear e1
    go_enter Try.func35, Try.ntmps35
    go_wp2
    go_ret
    exact ⟨rfl, rfl⟩
end Go.Proofs.Ytpkenhcglnognaa
