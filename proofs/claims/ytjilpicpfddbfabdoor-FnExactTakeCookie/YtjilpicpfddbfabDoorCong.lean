/-
  Contracts of impl's and spec's CongOk, CongStart and CongLost, of impl's small methods over what may be under way, of spec's clipping, and of the laws' copying, at every value.
-/
import Derived.Test.YtjilpicpfddbfabDoorM1
namespace Go.Proofs.YtjilpicpfddbfabDoor
open Go.ChangeShapes Go.WideShapes Go.ChangeAt Go.RowKit
set_option linter.unusedVariables false
set_option maxRecDepth 10000

/-- What may be under way, as a value. -/
def congVal (x t d : Int) (f : Bool) (r : Int) : Value := .agg #[.int .i64 x, .int .i64 t, .int .i64 d, .bool f, .int .u32 r]

theorem eqCong (x t d : Int) (f : Bool) (r : Int) (w : World) :
    Calls Tryd.prog 33 #[congVal x t d f r, congVal x t d f r] w fun e w' => e = .returned (.bool true) ∧ Since w w' := by
  unfold congVal
  go_enter Tryd.func33, Tryd.ntmps33
  go_wp2
  go_ret
  exact ⟨rfl, by repeat (first | exact Since.refl _ | apply Since.drew | apply Since.alloc)⟩

theorem specClip (x a b : Int) (h : a ≤ b) (w : World) :
    Calls Tryd.prog 67 #[.int .i64 x, .int .i64 a, .int .i64 b] w fun e w' => e = .returned (.int .i64 (min (max x a) b)) ∧ w = w' := by
  go_enter Tryd.func67, Tryd.ntmps67
  go_wp2
  all_goals go_ret
  all_goals exact ⟨ret_int (by omega), rfl⟩

theorem implStart (t : Int) (w : World) :
    Calls Tryd.prog 63 #[.int .i64 t] w fun e w' => e = .returned (congVal 200 (min (max t 200) 8000) 0 false 0) ∧ Since w w' := by
  unfold congVal
  go_enter Tryd.func63, Tryd.ntmps63
  go_wp2
  · rw [show min (max t 200) 8000 = 200 by omega]
    refine bodyPost_ret (v := .agg #[.int .i64 200, .int .i64 200, .int .i64 0, .bool false, .int .u32 0]) ?_ rfl ⟨rfl, by repeat (first | exact Since.refl _ | apply Since.drew | apply Since.alloc)⟩
    simp [results, go_sem]
  · rw [show min (max t 200) 8000 = 8000 by omega]
    refine bodyPost_ret (v := .agg #[.int .i64 200, .int .i64 8000, .int .i64 0, .bool false, .int .u32 0]) ?_ rfl ⟨rfl, by repeat (first | exact Since.refl _ | apply Since.drew | apply Since.alloc)⟩
    simp [results, go_sem]
  · rw [show min (max t 200) 8000 = t by omega]
    refine bodyPost_ret (v := .agg #[.int .i64 200, .int .i64 t, .int .i64 0, .bool false, .int .u32 0]) ?_ rfl ⟨rfl, by repeat (first | exact Since.refl _ | apply Since.drew | apply Since.alloc)⟩
    simp [results, go_sem]

theorem specStart (t : Int) (w : World) :
    Calls Tryd.prog 57 #[.int .i64 t] w fun e w' => e = .returned (congVal 200 (min (max t 200) 8000) 0 false 0) ∧ Since w w' := by
  have hc := fun wx => specClip t 200 8000 (by omega) wx
  generalize min (max t 200) 8000 = m at hc ⊢
  unfold congVal
  go_enter Tryd.func57, Tryd.ntmps57
  go_wp2_with (go_at_call 67; refine (hc _).mono ?_; rintro _ _ ⟨rfl, rfl⟩)
  refine bodyPost_ret (v := .agg #[.int .i64 200, .int .i64 m, .int .i64 0, .bool false, .int .u32 0]) ?_ rfl ⟨rfl, by repeat (first | exact Since.refl _ | apply Since.drew | apply Since.alloc)⟩
  simp [results, go_sem]
end Go.Proofs.YtjilpicpfddbfabDoor
