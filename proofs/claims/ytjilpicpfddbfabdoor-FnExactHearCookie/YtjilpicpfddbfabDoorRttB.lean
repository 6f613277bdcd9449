/-
  Contracts of impl's and spec's RttOk and of the laws' copying of a wait, at every wait.
-/
import Derived.Test.YtjilpicpfddbfabDoorPkt
namespace Go.Proofs.YtjilpicpfddbfabDoor
open Go.ChangeShapes Go.WideShapes Go.ChangeAt Go.RowKit
set_option linter.unusedVariables false
set_option maxRecDepth 10000

/-- A wait as a value. -/
def rttVal (a : Bool) (s v h : Int) : Value := .agg #[.bool a, .int .i64 s, .int .i64 v, .int .i64 h]

/-- What RttOk answers. -/
def rttOk (a : Bool) (s v h : Int) : Bool := decide (0 ≤ s ∧ s ≤ 800000) && (decide (0 ≤ v ∧ v ≤ 400000) && (decide (0 ≤ h ∧ h ≤ 8) && (a || (decide (s = 0) && decide (v = 0)))))

theorem eqRtt (a : Bool) (s v h : Int) (w : World) :
    Calls Tryd.prog 32 #[rttVal a s v h, rttVal a s v h] w fun e w' => e = .returned (.bool true) ∧ Since w w' := by
  unfold rttVal
  go_enter Tryd.func32, Tryd.ntmps32
  go_wp2
  go_ret
  exact ⟨rfl, by repeat (first | exact Since.refl _ | apply Since.drew | apply Since.alloc)⟩

theorem ok_bounds {a : Bool} {s v h : Int} (k : rttOk a s v h = true) : 0 ≤ s ∧ s ≤ 800000 ∧ 0 ≤ v ∧ v ≤ 400000 ∧ 0 ≤ h ∧ h ≤ 8 ∧ (a = true ∨ s = 0 ∧ v = 0) := by
  simp [rttOk] at k
  obtain ⟨⟨k1, k2⟩, ⟨k3, k4⟩, ⟨k5, k6⟩, k7⟩ := k
  exact ⟨k1, k2, k3, k4, k5, k6, k7⟩
end Go.Proofs.YtjilpicpfddbfabDoor
