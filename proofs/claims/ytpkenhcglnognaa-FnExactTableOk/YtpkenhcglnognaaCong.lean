/-
  Contracts of impl's and spec's CongOk, CongStart and CongLost, of impl's small methods over what may be under way, of spec's clipping, and of the laws' copying, at every value.
-/
import Derived.Test.YtpkenhcglnognaaM1
import Derived.Test.YtpkenhcglnognaaCmp
namespace Go.Proofs.Ytpkenhcglnognaa
open Go.ChangeShapes Go.WideShapes Go.ChangeAt Go.RowKit
set_option linter.unusedVariables false
set_option maxRecDepth 10000

/-- What may be under way, as a value. -/
def congVal (x t d : Int) (f : Bool) (r : Int) : Value := .agg #[.int .i64 x, .int .i64 t, .int .i64 d, .bool f, .int .u32 r]

/-- What CongOk answers. -/
def congOk (x t d : Int) : Bool := decide (100 ≤ x ∧ x ≤ 8000) && (decide (200 ≤ t ∧ t ≤ 8000) && decide (0 ≤ d ∧ d ≤ 1000000))

theorem implCongOk (x t d : Int) (f : Bool) (r : Int) (w : World) :
    Calls Try.prog 63 #[congVal x t d f r] w fun e w' => e = .returned (.bool (congOk x t d)) ∧ w' = w.alloc (.cells #[.int .i64 x, .int .i64 t, .int .i64 d, .bool f, .int .u32 r] 51) := by
  unfold congVal
  go_enter Try.func63, Try.ntmps63
  go_wp2
  all_goals go_ret
  all_goals refine ⟨ret_bool ?_, by first | rfl | simp [*]⟩
  all_goals rw [Bool.eq_iff_iff]
  all_goals simp [congOk, *]
  all_goals omega

theorem specCongOk (x t d : Int) (f : Bool) (r : Int) (w : World) :
    Calls Try.prog 31 #[congVal x t d f r] w fun e w' => e = .returned (.bool (congOk x t d)) ∧ w' = w.alloc (.cells #[.int .i64 x, .int .i64 t, .int .i64 d, .bool f, .int .u32 r] 51) := by
  unfold congVal congOk
  have i1 := fun wx => specIn x 100 8000 wx
  have i2 := fun wx => specIn t 200 8000 wx
  have i3 := fun wx => specIn d 0 1000000 wx
  generalize decide (100 ≤ x ∧ x ≤ 8000) = b1 at i1 ⊢
  generalize decide (200 ≤ t ∧ t ≤ 8000) = b2 at i2 ⊢
  generalize decide (0 ≤ d ∧ d ≤ 1000000) = b3 at i3 ⊢
  go_enter Try.func31, Try.ntmps31
  cases b1
  · go_wp2_with (go_at_call 15; refine (i1 _).mono ?_; clear i1; rintro _ _ ⟨rfl, rfl⟩)
    go_ret
    exact ⟨rfl, rfl⟩
  cases b2
  · go_wp2_with (first | (go_at_call 15; refine (i1 _).mono ?_; clear i1; rintro _ _ ⟨rfl, rfl⟩) | (go_at_call 15; refine (i2 _).mono ?_; rintro _ _ ⟨rfl, rfl⟩))
    go_ret
    exact ⟨rfl, rfl⟩
  go_wp2_with (first | (go_at_call 15; refine (i1 _).mono ?_; clear i1; rintro _ _ ⟨rfl, rfl⟩) | (go_at_call 15; refine (i2 _).mono ?_; clear i2; rintro _ _ ⟨rfl, rfl⟩) | (go_at_call 15; refine (i3 _).mono ?_; clear i3; rintro _ _ ⟨rfl, rfl⟩))
  all_goals go_ret
  all_goals refine ⟨ret_bool ?_, by first | rfl | simp [*]⟩
  all_goals rw [Bool.eq_iff_iff]
  all_goals simp_all

theorem toCong (x t d : Int) (f : Bool) (r : Int) (w : World) :
    Calls Try.prog 59 #[congVal x t d f r] w fun e w' => e = .returned (congVal x t d f r) ∧ Since w w' := by
  unfold congVal
  go_enter Try.func59, Try.ntmps59
  go_wp2
  refine bodyPost_ret (v := .agg #[.int .i64 x, .int .i64 t, .int .i64 d, .bool f, .int .u32 r]) ?_ rfl ⟨rfl, by repeat (first | exact Since.refl _ | apply Since.drew | apply Since.alloc)⟩
  simp [results, go_sem]

theorem eqCong (x t d : Int) (f : Bool) (r : Int) (w : World) :
    Calls Try.prog 69 #[congVal x t d f r, congVal x t d f r] w fun e w' => e = .returned (.bool true) ∧ Since w w' := by
  unfold congVal
  go_enter Try.func69, Try.ntmps69
  go_wp2
  go_ret
  exact ⟨rfl, by repeat (first | exact Since.refl _ | apply Since.drew | apply Since.alloc)⟩
end Go.Proofs.Ytpkenhcglnognaa
