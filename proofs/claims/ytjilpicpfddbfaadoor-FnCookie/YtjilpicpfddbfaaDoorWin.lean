/-
  Contracts of the functions on windows: InWindow, Overlaps and Unwrap, impl's and spec's, at every argument; no condition but that words are words and ints are ints.
-/
import Derived.Test.YtjilpicpfddbfaaDoorSeq
namespace Go.Proofs.YtjilpicpfddbfaaDoor
open Go.ChangeShapes Go.WideShapes Go.ChangeAt Go.RowKit
set_option linter.unusedVariables false
set_option maxRecDepth 10000

/-- m is how far b is ahead of a, round the words, as a number from 0 on. -/
def IsAhead (a b m : Int) : Prop := 0 ≤ m ∧ m < 4294967296 ∧ (b - a - m) % 4294967296 = 0

theorem isAhead_ex (a b : Int) : ∃ m, IsAhead a b m := ⟨(b - a) % 4294967296, by unfold IsAhead; omega⟩

/-- x is an int. -/
def IsInt (x : Int) : Prop := -9223372036854775808 ≤ x ∧ x ≤ 9223372036854775807

theorem specIn (x a b : Int) (w : World) :
    Calls Tryd.prog 27 #[.int .i64 x, .int .i64 a, .int .i64 b] w fun e w' => e = .returned (.bool (decide (a ≤ x ∧ x ≤ b))) ∧ w = w' := by
  by_cases h1 : a ≤ x
  · have e1 : decide (a ≤ x ∧ x ≤ b) = decide (x ≤ b) := by simp [h1]
    rw [e1]
    clear e1
    go_enter Tryd.func27, Tryd.ntmps27
    go_wp2
    go_ret
    exact ⟨rfl, rfl⟩
  · have e1 : decide (a ≤ x ∧ x ≤ b) = false := by simp [h1]
    rw [e1]
    clear e1
    go_enter Tryd.func27, Tryd.ntmps27
    go_wp2
    go_ret
    exact ⟨rfl, rfl⟩
end Go.Proofs.YtjilpicpfddbfaaDoor
