/-
  Contracts of the laws' functions over buffers of bytes to be sent, and of impl's and spec's OutOk.
-/
import Derived.Test.YtjilpicpfddbfabDoorRow
import Derived.Test.YtjilpicpfddbfabDoorCmp
import Derived.Test.YtjilpicpfddbfabDoorAgg
namespace Go.Proofs.YtjilpicpfddbfabDoor
open Go.ChangeShapes Go.WideShapes Go.ChangeAt Go.RowKit Go.Deep
set_option linter.unusedVariables false
set_option maxRecDepth 10000

/-- A buffer of bytes to be sent, as a value. -/
def outVal (f : Int) (d : ByteArray) (r : Int) : Value := .agg #[.int .u32 f, .string d, .int .i64 r]

/-- What OutOk answers. -/
def outOk (d : ByteArray) (r : Int) : Bool := decide (1 ≤ r ∧ r ≤ 4096) && decide ((d.size : Int) ≤ r)

theorem outOk_iff (d : ByteArray) (r : Int) : outOk d r = true ↔ 1 ≤ r ∧ r ≤ 4096 ∧ (d.size : Int) ≤ r := by
  unfold outOk
  simp
  omega

theorem eqOut (f : Int) (d : ByteArray) (r : Int) (w : World) :
    Calls Tryd.prog 30 #[outVal f d r, outVal f d r] w fun e w' => e = .returned (.bool true) ∧ Since w w' := by
  unfold outVal
  go_enter Tryd.func30, Tryd.ntmps30
  go_wp2
  go_ret
  exact ⟨rfl, ((Since.refl _).alloc _).alloc _⟩

theorem isRoom (x : Int) (w : World) :
    Calls Tryd.prog 49 #[.int .i64 x] w fun e w' => e = .returned (.bool (decide (1 ≤ x ∧ x ≤ 4096))) ∧ w = w' := by
  by_cases h1 : 1 ≤ x
  · have e1 : decide (1 ≤ x ∧ x ≤ 4096) = decide (x ≤ 4096) := by simp [h1]
    rw [e1]
    clear e1
    go_enter Tryd.func49, Tryd.ntmps49
    go_wp2
    go_ret
    exact ⟨rfl, rfl⟩
  · have e1 : decide (1 ≤ x ∧ x ≤ 4096) = false := by simp [h1]
    rw [e1]
    clear e1
    go_enter Tryd.func49, Tryd.ntmps49
    go_wp2
    go_ret
    exact ⟨rfl, rfl⟩
end Go.Proofs.YtjilpicpfddbfabDoor
