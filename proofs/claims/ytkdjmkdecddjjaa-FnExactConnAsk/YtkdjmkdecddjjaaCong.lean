/-
  Contracts of impl's and spec's CongOk, CongStart and CongLost, of impl's small methods over what may be under way, of spec's clipping, and of the laws' copying, at every value.
-/
import Derived.Test.YtkdjmkdecddjjaaPkt
import Derived.Test.YtkdjmkdecddjjaaCmp
namespace Go.Proofs.Ytkdjmkdecddjjaa
open Go.ChangeShapes Go.WideShapes Go.ChangeAt Go.RowKit
set_option linter.unusedVariables false
set_option maxRecDepth 10000

/-- What may be under way, as a value. -/
def congVal (x t d : Int) (f : Bool) (r : Int) : Value := .agg #[.int .i64 x, .int .i64 t, .int .i64 d, .bool f, .int .u32 r]

/-- What CongOk answers. -/
def congOk (x t d : Int) : Bool := decide (100 ≤ x ∧ x ≤ 8000) && (decide (200 ≤ t ∧ t ≤ 8000) && decide (0 ≤ d ∧ d ≤ 1000000))

theorem cong_bounds {x t d : Int} (k : congOk x t d = true) : (100 ≤ x ∧ x ≤ 8000) ∧ (200 ≤ t ∧ t ≤ 8000) ∧ 0 ≤ d ∧ d ≤ 1000000 := by
  simp [congOk] at k
  omega

theorem implCongOk (x t d : Int) (f : Bool) (r : Int) (w : World) :
    Calls Try.prog 52 #[congVal x t d f r] w fun e w' => e = .returned (.bool (congOk x t d)) ∧ w' = w.alloc (.cells #[.int .i64 x, .int .i64 t, .int .i64 d, .bool f, .int .u32 r] 41) := by
  unfold congVal
  go_enter Try.func52, Try.ntmps52
  go_wp2
  all_goals go_ret
  all_goals refine ⟨ret_bool ?_, by first | rfl | simp [*]⟩
  all_goals rw [Bool.eq_iff_iff]
  all_goals simp [congOk, *]
  all_goals omega

theorem specCongOk (x t d : Int) (f : Bool) (r : Int) (w : World) :
    Calls Try.prog 21 #[congVal x t d f r] w fun e w' => e = .returned (.bool (congOk x t d)) ∧ w' = w.alloc (.cells #[.int .i64 x, .int .i64 t, .int .i64 d, .bool f, .int .u32 r] 41) := by
  unfold congVal congOk
  have i1 := fun wx => specIn x 100 8000 wx
  have i2 := fun wx => specIn t 200 8000 wx
  have i3 := fun wx => specIn d 0 1000000 wx
  generalize decide (100 ≤ x ∧ x ≤ 8000) = b1 at i1 ⊢
  generalize decide (200 ≤ t ∧ t ≤ 8000) = b2 at i2 ⊢
  generalize decide (0 ≤ d ∧ d ≤ 1000000) = b3 at i3 ⊢
  go_enter Try.func21, Try.ntmps21
  cases b1
  · go_wp2_with (go_at_call 17; refine (i1 _).mono ?_; clear i1; rintro _ _ ⟨rfl, rfl⟩)
    go_ret
    exact ⟨rfl, rfl⟩
  cases b2
  · go_wp2_with (first | (go_at_call 17; refine (i1 _).mono ?_; clear i1; rintro _ _ ⟨rfl, rfl⟩) | (go_at_call 17; refine (i2 _).mono ?_; rintro _ _ ⟨rfl, rfl⟩))
    go_ret
    exact ⟨rfl, rfl⟩
  go_wp2_with (first | (go_at_call 17; refine (i1 _).mono ?_; clear i1; rintro _ _ ⟨rfl, rfl⟩) | (go_at_call 17; refine (i2 _).mono ?_; clear i2; rintro _ _ ⟨rfl, rfl⟩) | (go_at_call 17; refine (i3 _).mono ?_; clear i3; rintro _ _ ⟨rfl, rfl⟩))
  all_goals go_ret
  all_goals refine ⟨ret_bool ?_, by first | rfl | simp [*]⟩
  all_goals rw [Bool.eq_iff_iff]
  all_goals simp_all

theorem toCong (x t d : Int) (f : Bool) (r : Int) (w : World) :
    Calls Try.prog 27 #[congVal x t d f r] w fun e w' => e = .returned (congVal x t d f r) ∧ Since w w' := by
  unfold congVal
  go_enter Try.func27, Try.ntmps27
  go_wp2
  refine bodyPost_ret (v := .agg #[.int .i64 x, .int .i64 t, .int .i64 d, .bool f, .int .u32 r]) ?_ rfl ⟨rfl, by repeat (first | exact Since.refl _ | apply Since.drew | apply Since.alloc)⟩
  simp [results, go_sem]

theorem eqCong (x t d : Int) (f : Bool) (r : Int) (w : World) :
    Calls Try.prog 37 #[congVal x t d f r, congVal x t d f r] w fun e w' => e = .returned (.bool true) ∧ Since w w' := by
  unfold congVal
  go_enter Try.func37, Try.ntmps37
  go_wp2
  go_ret
  exact ⟨rfl, by repeat (first | exact Since.refl _ | apply Since.drew | apply Since.alloc)⟩

theorem specClip (x a b : Int) (h : a ≤ b) (w : World) :
    Calls Try.prog 69 #[.int .i64 x, .int .i64 a, .int .i64 b] w fun e w' => e = .returned (.int .i64 (min (max x a) b)) ∧ w = w' := by
  go_enter Try.func69, Try.ntmps69
  go_wp2
  all_goals go_ret
  all_goals exact ⟨ret_int (by omega), rfl⟩

theorem implStart (t : Int) (w : World) :
    Calls Try.prog 58 #[.int .i64 t] w fun e w' => e = .returned (congVal 200 (min (max t 200) 8000) 0 false 0) ∧ Since w w' := by
  unfold congVal
  go_enter Try.func58, Try.ntmps58
  go_wp2
  · rw [show min (max t 200) 8000 = 200 by omega]
    refine bodyPost_ret (v := .agg #[.int .i64 200, .int .i64 200, .int .i64 0, .bool false, .int .u32 0]) ?_ rfl ⟨rfl, by repeat (first | exact Since.refl _ | apply Since.drew | apply Since.alloc)⟩
    simp [results, go_sem]
  · rw [show min (max t 200) 8000 = 8000 by omega]
    refine bodyPost_ret (v := .agg #[.int .i64 200, .int .i64 8000, .int .i64 0, .bool false, .int .u32 0]) ?_ rfl ⟨rfl, by repeat (first | exact Since.refl _ | apply Since.drew | apply Since.alloc)⟩
    simp [results, go_sem]
  · rw [show min (max t 200) 8000 = t by omega]
    refine bodyPost_ret (v := .agg #[.int .i64 200, .int .i64 t, .int .i64 0, .bool false, .int .u32 0]) ?_ rfl ⟨rfl, by repeat (first | exact Since.refl _ | apply Since.drew | apply Since.alloc)⟩
    simp [results, go_sem]

theorem specStart (t : Int) (w : World) :
    Calls Try.prog 56 #[.int .i64 t] w fun e w' => e = .returned (congVal 200 (min (max t 200) 8000) 0 false 0) ∧ Since w w' := by
  have hc := fun wx => specClip t 200 8000 (by omega) wx
  generalize min (max t 200) 8000 = m at hc ⊢
  unfold congVal
  go_enter Try.func56, Try.ntmps56
  go_wp2_with (go_at_call 69; refine (hc _).mono ?_; rintro _ _ ⟨rfl, rfl⟩)
  refine bodyPost_ret (v := .agg #[.int .i64 200, .int .i64 m, .int .i64 0, .bool false, .int .u32 0]) ?_ rfl ⟨rfl, by repeat (first | exact Since.refl _ | apply Since.drew | apply Since.alloc)⟩
  simp [results, go_sem]

/-- What CongLost answers. -/
def lostOf (k : Bool) (x t d : Int) (f : Bool) (r n : Int) : Value := if k then congVal 100 (max (n / 2) 200) 0 false 0 else congVal x t d f r
end Go.Proofs.Ytkdjmkdecddjjaa
