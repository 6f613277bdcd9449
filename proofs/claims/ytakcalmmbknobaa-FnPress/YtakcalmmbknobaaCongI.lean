/-
  Contracts of impl's methods over what may be under way: what each does at a confirmation, and the table of them by state.
-/
import Derived.Test.YtakcalmmbknobaaCong
import Derived.Laws.EntriesVeiled
import Derived.Deep.RegionWith
namespace Go.Proofs.Ytakcalmmbknobaa
open Go.ChangeShapes Go.WideShapes Go.ChangeAt Go.RowKit
set_option linter.unusedVariables false

theorem implState (x t d : Int) (f : Bool) (r : Int) (w : World) :
    Calls Try.prog 41 #[congVal x t d f r] w fun e w' => e = .returned (.int .i64 (if f then 2 else if x < t then 0 else 1)) ∧ ∃ y : Array Value, w' = w.alloc (.cells y 26) := by
  unfold congVal
  cases f
  · by_cases h : x < t
    · simp only [h, if_true, Bool.false_eq_true, if_false]
      go_enter Try.func41, Try.ntmps41
      go_wp2
      go_ret
      exact ⟨rfl, _, rfl⟩
    · simp only [h, if_false, Bool.false_eq_true, if_false]
      go_enter Try.func41, Try.ntmps41
      go_wp2
      go_ret
      exact ⟨rfl, _, rfl⟩
  · simp only [if_true]
    go_enter Try.func41, Try.ntmps41
    go_wp2
    go_ret
    exact ⟨rfl, _, rfl⟩

theorem stepsQuick (x t d : Int) (f : Bool) (r : Int) (hf : f = false) (hx : x < t) (w : World) :
    Calls Try.prog 28 #[congVal x t d f r] w fun e w' => e = .returned (.agg #[.func (.func 36) #[] #[], .func (.func 37) #[] #[]]) ∧ Since w w' := by
  subst hf
  have hs := fun wx => implState x t d false r wx
  simp only [hx, if_true, Bool.false_eq_true, if_false] at hs
  unfold congVal at *
  go_enter Try.func28, Try.ntmps28
  go_wp2_with (go_at_call 41; refine (hs _).mono ?_; rintro _ _ ⟨rfl, y, rfl⟩)
  refine bodyPost_ret (v := .agg #[.func (.func 36) #[] #[], .func (.func 37) #[] #[]]) ?_ rfl ⟨rfl, by repeat (first | exact Since.refl _ | apply Since.drew | apply Since.alloc)⟩
  simp [results, go_sem]

theorem stepsSlow (x t d : Int) (f : Bool) (r : Int) (hf : f = false) (hx : ¬ x < t) (w : World) :
    Calls Try.prog 28 #[congVal x t d f r] w fun e w' => e = .returned (.agg #[.func (.func 38) #[] #[], .func (.func 37) #[] #[]]) ∧ Since w w' := by
  subst hf
  have hs := fun wx => implState x t d false r wx
  simp only [hx, Bool.false_eq_true, if_false] at hs
  unfold congVal at *
  go_enter Try.func28, Try.ntmps28
  go_wp2_with (go_at_call 41; refine (hs _).mono ?_; rintro _ _ ⟨rfl, y, rfl⟩)
  refine bodyPost_ret (v := .agg #[.func (.func 38) #[] #[], .func (.func 37) #[] #[]]) ?_ rfl ⟨rfl, by repeat (first | exact Since.refl _ | apply Since.drew | apply Since.alloc)⟩
  simp [results, go_sem]

theorem stepsMend (x t d : Int) (f : Bool) (r : Int) (hf : f = true) (w : World) :
    Calls Try.prog 28 #[congVal x t d f r] w fun e w' => e = .returned (.agg #[.func (.func 39) #[] #[], .func (.func 40) #[] #[]]) ∧ Since w w' := by
  subst hf
  have hs := fun wx => implState x t d true r wx
  simp only [if_true] at hs
  unfold congVal at *
  go_enter Try.func28, Try.ntmps28
  go_wp2_with (go_at_call 41; refine (hs _).mono ?_; rintro _ _ ⟨rfl, y, rfl⟩)
  refine bodyPost_ret (v := .agg #[.func (.func 39) #[] #[], .func (.func 40) #[] #[]]) ?_ rfl ⟨rfl, by repeat (first | exact Since.refl _ | apply Since.drew | apply Since.alloc)⟩
  simp [results, go_sem]

theorem ackedQuickly (x t d : Int) (f : Bool) (r n b : Int) (h0 : 100 ≤ x) (h1 : x ≤ 8000) (h2 : 0 ≤ n) (h3 : n ≤ 8000) (w : World) :
    Calls Try.prog 36 #[congVal x t d f r, .int .i64 n, .int .u32 b] w fun e w' => e = .returned (.tuple #[congVal (min (x + min n 100) 8000) t 0 f r, .bool false]) ∧ Since w w' := by
  have hs := fun wx => implGrown x t d f r (min n 100) (by omega) h1 (by omega) (by omega) wx
  rw [show min (max (x + min n 100) 100) 8000 = min (x + min n 100) 8000 by omega] at hs
  generalize min (x + min n 100) 8000 = m at hs ⊢
  unfold congVal at *
  by_cases hn : n ≤ 100
  · rw [show min n 100 = n by omega] at hs
    go_enter Try.func36, Try.ntmps36
    go_wp2_with (go_at_call 43; refine (hs _).mono ?_; rintro _ _ ⟨rfl, p, q, y, z, rfl⟩)
    refine bodyPost_ret (v := .tuple #[.agg #[.int .i64 m, .int .i64 t, .int .i64 0, .bool f, .int .u32 r], .bool false]) ?_ rfl ⟨rfl, by repeat (first | exact Since.refl _ | apply Since.drew | apply Since.alloc)⟩
    simp [results, go_sem]
  · rw [show min n 100 = 100 by omega] at hs
    go_enter Try.func36, Try.ntmps36
    go_wp2_with (go_at_call 43; refine (hs _).mono ?_; rintro _ _ ⟨rfl, p, q, y, z, rfl⟩)
    refine bodyPost_ret (v := .tuple #[.agg #[.int .i64 m, .int .i64 t, .int .i64 0, .bool f, .int .u32 r], .bool false]) ?_ rfl ⟨rfl, by repeat (first | exact Since.refl _ | apply Since.drew | apply Since.alloc)⟩
    simp [results, go_sem]

theorem quo_bounds (x : Int) (h0 : 100 ≤ x) (h1 : x ≤ 8000) : 1 ≤ 10000 / x ∧ 10000 / x ≤ 100 := by
  have hq0 : 0 ≤ 10000 / x := Int.ediv_nonneg (by omega) (by omega)
  have h4 : 10000 / x * x ≤ 10000 := Int.ediv_mul_le _ (by omega)
  have h5 : 10000 / x * 100 ≤ 10000 / x * x := Int.mul_le_mul_of_nonneg_left h0 hq0
  refine ⟨?_, by omega⟩
  exact (Int.le_ediv_iff_mul_le (by omega)).2 (by omega)

set_option maxHeartbeats 2000000 in
theorem ackedSlowly (x t d : Int) (f : Bool) (r n b : Int) (h0 : 100 ≤ x) (h1 : x ≤ 8000) (w : World) :
    Calls Try.prog 38 #[congVal x t d f r, .int .i64 n, .int .u32 b] w fun e w' => e = .returned (.tuple #[congVal (min (x + 10000 / x) 8000) t 0 f r, .bool false]) ∧ Since w w' := by
  obtain ⟨hq0, hq1⟩ := quo_bounds x h0 h1
  have hs := fun wx => implGrown x t d f r (10000 / x) (by omega) h1 (by omega) (by omega) wx
  rw [show min (max (x + 10000 / x) 100) 8000 = min (x + 10000 / x) 8000 by omega] at hs
  generalize min (x + 10000 / x) 8000 = m at hs ⊢
  have hw : IntKind.i64.wrap (Int.tdiv 10000 x) = 10000 / x := by
    rw [Int.tdiv_eq_ediv_of_nonneg (by omega), IntWalk.i64_left]
    exact IntWalk.wrap64_in _ ⟨by omega, by omega⟩
  generalize 10000 / x = o at hs hw hq0 hq1
  unfold congVal at *
  go_enter Try.func38, Try.ntmps38
  go_wp2_with (fail)
  have hx0 : ¬ x = 0 := by omega
  go_region_with (go_at_call_of 43 (Value.int IntKind.i64 o); refine (hs _).mono ?_; rintro _ _ ⟨rfl, p, q, y, z, rfl⟩)
  all_goals go_wp2
  all_goals refine bodyPost_ret (v := .tuple #[.agg #[.int .i64 m, .int .i64 t, .int .i64 0, .bool f, .int .u32 r], .bool false]) ?_ rfl ⟨rfl, by repeat (first | exact Since.refl _ | apply Since.drew | apply Since.alloc)⟩
  all_goals simp [results, go_sem]

end Go.Proofs.Ytakcalmmbknobaa
