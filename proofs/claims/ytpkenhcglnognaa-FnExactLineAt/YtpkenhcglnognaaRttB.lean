/-
  Contracts of impl's and spec's RttOk and of the laws' copying of a wait, at every wait.
-/
import Derived.Test.YtpkenhcglnognaaM1
namespace Go.Proofs.Ytpkenhcglnognaa
open Go.ChangeShapes Go.WideShapes Go.ChangeAt Go.RowKit
set_option linter.unusedVariables false
set_option maxRecDepth 10000

/-- A wait as a value. -/
def rttVal (a : Bool) (s v h : Int) : Value := .agg #[.bool a, .int .i64 s, .int .i64 v, .int .i64 h]

/-- What RttOk answers. -/
def rttOk (a : Bool) (s v h : Int) : Bool := decide (0 ≤ s ∧ s ≤ 800000) && (decide (0 ≤ v ∧ v ≤ 400000) && (decide (0 ≤ h ∧ h ≤ 8) && (a || (decide (s = 0) && decide (v = 0)))))

theorem implRttOk (a : Bool) (s v h : Int) (w : World) :
    Calls Try.prog 62 #[rttVal a s v h] w fun e w' => e = .returned (.bool (rttOk a s v h)) ∧ w' = w.alloc (.cells #[.bool a, .int .i64 s, .int .i64 v, .int .i64 h] 49) := by
  unfold rttVal
  go_enter Try.func62, Try.ntmps62
  go_wp2
  all_goals go_ret
  all_goals refine ⟨ret_bool ?_, by first | rfl | simp [*]⟩
  all_goals rw [Bool.eq_iff_iff]
  all_goals simp [rttOk, *]
  all_goals omega

theorem specRttOk (a : Bool) (s v h : Int) (w : World) :
    Calls Try.prog 30 #[rttVal a s v h] w fun e w' => e = .returned (.bool (rttOk a s v h)) ∧ w' = w.alloc (.cells #[.bool a, .int .i64 s, .int .i64 v, .int .i64 h] 49) := by
  unfold rttVal rttOk
  have i1 := fun wx => specIn s 0 800000 wx
  have i2 := fun wx => specIn v 0 400000 wx
  have i3 := fun wx => specIn h 0 8 wx
  generalize decide (0 ≤ s ∧ s ≤ 800000) = b1 at i1 ⊢
  generalize decide (0 ≤ v ∧ v ≤ 400000) = b2 at i2 ⊢
  generalize decide (0 ≤ h ∧ h ≤ 8) = b3 at i3 ⊢
  go_enter Try.func30, Try.ntmps30
  cases b1
  · go_wp2_with (go_at_call 15; refine (i1 _).mono ?_; clear i1; rintro _ _ ⟨rfl, rfl⟩)
    go_ret
    exact ⟨rfl, rfl⟩
  cases b2
  · go_wp2_with (first | (go_at_call 15; refine (i1 _).mono ?_; clear i1; rintro _ _ ⟨rfl, rfl⟩) | (go_at_call 15; refine (i2 _).mono ?_; rintro _ _ ⟨rfl, rfl⟩))
    go_ret
    exact ⟨rfl, rfl⟩
  go_wp2_with (first | (go_at_call 15; refine (i1 _).mono ?_; clear i1; rintro _ _ ⟨rfl, rfl⟩) | (go_at_call 15; refine (i2 _).mono ?_; clear i2; rintro _ _ ⟨rfl, rfl⟩) | (go_at_call 15; refine (i3 _).mono ?_; clear i3; rintro _ _ ⟨rfl, rfl⟩))
  all_goals go_ret
  all_goals refine ⟨ret_bool ?_, by first | rfl | simp [*]⟩
  all_goals rw [Bool.eq_iff_iff]
  all_goals simp_all

theorem toRtt (a : Bool) (s v h : Int) (w : World) :
    Calls Try.prog 58 #[rttVal a s v h] w fun e w' => e = .returned (rttVal a s v h) ∧ Since w w' := by
  unfold rttVal
  go_enter Try.func58, Try.ntmps58
  go_wp2
  refine bodyPost_ret (v := .agg #[.bool a, .int .i64 s, .int .i64 v, .int .i64 h]) ?_ rfl ⟨rfl, by repeat (first | exact Since.refl _ | apply Since.drew | apply Since.alloc)⟩
  simp [results, go_sem]

theorem eqRtt (a : Bool) (s v h : Int) (w : World) :
    Calls Try.prog 68 #[rttVal a s v h, rttVal a s v h] w fun e w' => e = .returned (.bool true) ∧ Since w w' := by
  unfold rttVal
  go_enter Try.func68, Try.ntmps68
  go_wp2
  go_ret
  exact ⟨rfl, by repeat (first | exact Since.refl _ | apply Since.drew | apply Since.alloc)⟩
end Go.Proofs.Ytpkenhcglnognaa
