/-
  Pipes: the laws' functions over them, and both sides' PipeOk, RelayStart and RelayHeld.
-/
import Derived.Test.YtomnjegldbopiaaRow
import Derived.Test.YtomnjegldbopiaaSeq
import Derived.Test.YtomnjegldbopiaaRows
import Derived.WalkKit
import Derived.ProofKit
import Derived.OpenShut
import Derived.ShutString
import Derived.Deep.Fields
import Derived.Test.YtomnjegldbopiaaWant
namespace Go.Proofs.Ytomnjegldbopiaa
open Go.ChangeShapes Go.WideShapes Go.ChangeAt Go.RowKit Go.Deep
set_option linter.unusedVariables false
set_option maxRecDepth 10000

/-- A pipe as a value. -/
def ppVal (r : Int) (d : ByteArray) (e : Bool) (n : Int) : Value := .agg #[.int .i64 r, .string d, .bool e, .int .i64 n]

/-- Two pipes as a value. -/
def rlVal (r : Int) (d : ByteArray) (e : Bool) (n : Int) (s : Int) (f : ByteArray) (g : Bool) (m : Int) : Value := .agg #[.int .i64 r, .string d, .bool e, .int .i64 n, .int .i64 s, .string f, .bool g, .int .i64 m]

theorem eqPipe (r : Int) (d : ByteArray) (e : Bool) (n : Int) (w : World) :
    Calls Try.prog 24 #[ppVal r d e n, ppVal r d e n] w fun x w' => x = .returned (.bool true) ∧ Since w w' := by
  unfold ppVal
  go_enter Try.func24, Try.ntmps24
  go_wp2
  go_ret
  exact ⟨rfl, by repeat (first | exact Since.refl _ | apply Since.drew | apply Since.alloc)⟩

theorem isPipeRoom (x : Int) (w : World) :
    Calls Try.prog 21 #[.int .i64 x] w fun e w' => e = .returned (.bool (decide (1 ≤ x ∧ x ≤ 2048))) ∧ w = w' := by
  go_enter Try.func21, Try.ntmps21
  go_wp2
  all_goals go_ret
  all_goals refine ⟨ret_bool ?_, by first | rfl | simp [*]⟩
  all_goals rw [Bool.eq_iff_iff]
  all_goals simp [*]
  all_goals omega
end Go.Proofs.Ytomnjegldbopiaa
