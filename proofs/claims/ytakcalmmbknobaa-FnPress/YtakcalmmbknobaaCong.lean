/-
  Contracts of impl's and spec's CongOk, CongStart and CongLost, of impl's small methods over what may be under way, of spec's clipping, and of the laws' copying, at every value.
-/
import Derived.Test.YtakcalmmbknobaaPkt
import Derived.Test.YtakcalmmbknobaaCmp
namespace Go.Proofs.Ytakcalmmbknobaa
open Go.ChangeShapes Go.WideShapes Go.ChangeAt Go.RowKit
set_option linter.unusedVariables false

/-- What may be under way, as a value. -/
def congVal (x t d : Int) (f : Bool) (r : Int) : Value := .agg #[.int .i64 x, .int .i64 t, .int .i64 d, .bool f, .int .u32 r]

/-- What CongOk answers. -/
def congOk (x t d : Int) : Bool := decide (100 ≤ x ∧ x ≤ 8000) && (decide (200 ≤ t ∧ t ≤ 8000) && decide (0 ≤ d ∧ d ≤ 1000000))

theorem ret_bool {b c : Bool} (h : b = c) : Ending.returned (Value.bool b) = Ending.returned (Value.bool c) := by rw [h]

theorem ret_int {b c : Int} (h : b = c) : Ending.returned (Value.int .i64 b) = Ending.returned (Value.int .i64 c) := by rw [h]

theorem cong_bounds {x t d : Int} (k : congOk x t d = true) : (100 ≤ x ∧ x ≤ 8000) ∧ (200 ≤ t ∧ t ≤ 8000) ∧ 0 ≤ d ∧ d ≤ 1000000 := by
  simp [congOk] at k
  omega

theorem implCongOk (x t d : Int) (f : Bool) (r : Int) (w : World) :
    Calls Try.prog 13 #[congVal x t d f r] w fun e w' => e = .returned (.bool (congOk x t d)) ∧ w' = w.alloc (.cells #[.int .i64 x, .int .i64 t, .int .i64 d, .bool f, .int .u32 r] 26) := by
  unfold congVal
  go_enter Try.func13, Try.ntmps13
  go_wp2
  all_goals go_ret
  all_goals refine ⟨ret_bool ?_, by first | rfl | simp [*]⟩
  all_goals rw [Bool.eq_iff_iff]
  all_goals simp [congOk, *]
  all_goals omega

theorem specCongOk (x t d : Int) (f : Bool) (r : Int) (w : World) :
    Calls Try.prog 12 #[congVal x t d f r] w fun e w' => e = .returned (.bool (congOk x t d)) ∧ w' = w.alloc (.cells #[.int .i64 x, .int .i64 t, .int .i64 d, .bool f, .int .u32 r] 26) := by
  unfold congVal congOk
  have i1 := fun wx => specIn x 100 8000 wx
  have i2 := fun wx => specIn t 200 8000 wx
  have i3 := fun wx => specIn d 0 1000000 wx
  generalize decide (100 ≤ x ∧ x ≤ 8000) = b1 at i1 ⊢
  generalize decide (200 ≤ t ∧ t ≤ 8000) = b2 at i2 ⊢
  generalize decide (0 ≤ d ∧ d ≤ 1000000) = b3 at i3 ⊢
  go_enter Try.func12, Try.ntmps12
  cases b1
  · go_wp2_with (go_at_call 29; refine (i1 _).mono ?_; clear i1; rintro _ _ ⟨rfl, rfl⟩)
    go_ret
    exact ⟨rfl, rfl⟩
  cases b2
  · go_wp2_with (first | (go_at_call 29; refine (i1 _).mono ?_; clear i1; rintro _ _ ⟨rfl, rfl⟩) | (go_at_call 29; refine (i2 _).mono ?_; rintro _ _ ⟨rfl, rfl⟩))
    go_ret
    exact ⟨rfl, rfl⟩
  go_wp2_with (first | (go_at_call 29; refine (i1 _).mono ?_; clear i1; rintro _ _ ⟨rfl, rfl⟩) | (go_at_call 29; refine (i2 _).mono ?_; clear i2; rintro _ _ ⟨rfl, rfl⟩) | (go_at_call 29; refine (i3 _).mono ?_; clear i3; rintro _ _ ⟨rfl, rfl⟩))
  all_goals go_ret
  all_goals refine ⟨ret_bool ?_, by first | rfl | simp [*]⟩
  all_goals rw [Bool.eq_iff_iff]
  all_goals simp_all

theorem toCong (x t d : Int) (f : Bool) (r : Int) (w : World) :
    Calls Try.prog 19 #[congVal x t d f r] w fun e w' => e = .returned (congVal x t d f r) ∧ Since w w' := by
  unfold congVal
  go_enter Try.func19, Try.ntmps19
  go_wp2
  refine bodyPost_ret (v := .agg #[.int .i64 x, .int .i64 t, .int .i64 d, .bool f, .int .u32 r]) ?_ rfl ⟨rfl, by repeat (first | exact Since.refl _ | apply Since.drew | apply Since.alloc)⟩
  simp [results, go_sem]

theorem eqCong (x t d : Int) (f : Bool) (r : Int) (w : World) :
    Calls Try.prog 18 #[congVal x t d f r, congVal x t d f r] w fun e w' => e = .returned (.bool true) ∧ Since w w' := by
  unfold congVal
  go_enter Try.func18, Try.ntmps18
  go_wp2
  go_ret
  exact ⟨rfl, by repeat (first | exact Since.refl _ | apply Since.drew | apply Since.alloc)⟩

theorem isUnderWay (n : Int) (w : World) :
    Calls Try.prog 27 #[.int .i64 n] w fun e w' => e = .returned (.bool (decide (0 ≤ n ∧ n ≤ 8000))) ∧ w = w' := by
  go_enter Try.func27, Try.ntmps27
  go_wp2
  all_goals go_ret
  all_goals refine ⟨ret_bool ?_, by first | rfl | simp [*]⟩
  all_goals rw [Bool.eq_iff_iff]
  all_goals simp [*]
  all_goals omega

theorem specClip (x a b : Int) (h : a ≤ b) (w : World) :
    Calls Try.prog 31 #[.int .i64 x, .int .i64 a, .int .i64 b] w fun e w' => e = .returned (.int .i64 (min (max x a) b)) ∧ w = w' := by
  go_enter Try.func31, Try.ntmps31
  go_wp2
  all_goals go_ret
  all_goals exact ⟨ret_int (by omega), rfl⟩

theorem implHalved (n : Int) (h0 : 0 ≤ n) (h1 : n ≤ 8000) (w : World) :
    Calls Try.prog 30 #[.int .i64 n] w fun e w' => e = .returned (.int .i64 (max (n / 2) 200)) ∧ w = w' := by
  go_enter Try.func30, Try.ntmps30
  go_wp2
  all_goals go_ret
  all_goals exact ⟨ret_int (by omega), rfl⟩

theorem implSized (x t d : Int) (f : Bool) (r n : Int) (w : World) :
    Calls Try.prog 44 #[congVal x t d f r, .int .i64 n] w fun e w' => e = .returned (congVal (min (max n 100) 8000) t d f r) ∧ ∃ y z : Array Value, w' = (w.alloc (.cells y 26)).alloc (.cells z 26) := by
  unfold congVal
  go_enter Try.func44, Try.ntmps44
  go_wp2
  · rw [show min (max n 100) 8000 = 100 by omega]
    refine bodyPost_ret (v := .agg #[.int .i64 100, .int .i64 t, .int .i64 d, .bool f, .int .u32 r]) ?_ rfl ⟨rfl, _, _, rfl⟩
    simp [results, go_sem]
  · rw [show min (max n 100) 8000 = 8000 by omega]
    refine bodyPost_ret (v := .agg #[.int .i64 8000, .int .i64 t, .int .i64 d, .bool f, .int .u32 r]) ?_ rfl ⟨rfl, _, _, rfl⟩
    simp [results, go_sem]
  · rw [show min (max n 100) 8000 = n by omega]
    refine bodyPost_ret (v := .agg #[.int .i64 n, .int .i64 t, .int .i64 d, .bool f, .int .u32 r]) ?_ rfl ⟨rfl, _, _, rfl⟩
    simp [results, go_sem]

theorem implGrown (x t d : Int) (f : Bool) (r n : Int) (h0 : 0 ≤ x) (h1 : x ≤ 8000) (h2 : 0 ≤ n) (h3 : n ≤ 8000) (w : World) :
    Calls Try.prog 43 #[congVal x t d f r, .int .i64 n] w fun e w' => e = .returned (congVal (min (max (x + n) 100) 8000) t 0 f r) ∧ ∃ p q y z : Array Value, w' = (((w.alloc (.cells p 26)).alloc (.cells q 26)).alloc (.cells y 26)).alloc (.cells z 26) := by
  have hs := fun wx => implSized x t 0 f r (x + n) wx
  generalize min (max (x + n) 100) 8000 = m at hs ⊢
  unfold congVal at *
  go_enter Try.func43, Try.ntmps43
  go_wp2_with (go_at_call 44; refine (hs _).mono ?_; rintro _ _ ⟨rfl, y, z, rfl⟩)
  refine bodyPost_ret (v := .agg #[.int .i64 m, .int .i64 t, .int .i64 0, .bool f, .int .u32 r]) ?_ rfl ⟨rfl, _, _, _, _, rfl⟩
  simp [results, go_sem]

theorem implStart (t : Int) (w : World) :
    Calls Try.prog 14 #[.int .i64 t] w fun e w' => e = .returned (congVal 200 (min (max t 200) 8000) 0 false 0) ∧ Since w w' := by
  unfold congVal
  go_enter Try.func14, Try.ntmps14
  go_wp2
  · rw [show min (max t 200) 8000 = 200 by omega]
    refine bodyPost_ret (v := .agg #[.int .i64 200, .int .i64 200, .int .i64 0, .bool false, .int .u32 0]) ?_ rfl ⟨rfl, by repeat (first | exact Since.refl _ | apply Since.drew | apply Since.alloc)⟩
    simp [results, go_sem]
  · rw [show min (max t 200) 8000 = 8000 by omega]
    refine bodyPost_ret (v := .agg #[.int .i64 200, .int .i64 8000, .int .i64 0, .bool false, .int .u32 0]) ?_ rfl ⟨rfl, by repeat (first | exact Since.refl _ | apply Since.drew | apply Since.alloc)⟩
    simp [results, go_sem]
  · rw [show min (max t 200) 8000 = t by omega]
    refine bodyPost_ret (v := .agg #[.int .i64 200, .int .i64 t, .int .i64 0, .bool false, .int .u32 0]) ?_ rfl ⟨rfl, by repeat (first | exact Since.refl _ | apply Since.drew | apply Since.alloc)⟩
    simp [results, go_sem]

theorem specStart (t : Int) (w : World) :
    Calls Try.prog 17 #[.int .i64 t] w fun e w' => e = .returned (congVal 200 (min (max t 200) 8000) 0 false 0) ∧ Since w w' := by
  have hc := fun wx => specClip t 200 8000 (by omega) wx
  generalize min (max t 200) 8000 = m at hc ⊢
  unfold congVal
  go_enter Try.func17, Try.ntmps17
  go_wp2_with (go_at_call 31; refine (hc _).mono ?_; rintro _ _ ⟨rfl, rfl⟩)
  refine bodyPost_ret (v := .agg #[.int .i64 200, .int .i64 m, .int .i64 0, .bool false, .int .u32 0]) ?_ rfl ⟨rfl, by repeat (first | exact Since.refl _ | apply Since.drew | apply Since.alloc)⟩
  simp [results, go_sem]

/-- What CongLost answers. -/
def lostOf (k : Bool) (x t d : Int) (f : Bool) (r n : Int) : Value := if k then congVal 100 (max (n / 2) 200) 0 false 0 else congVal x t d f r

theorem implLost (x t d : Int) (f : Bool) (r n : Int) (w : World) :
    Calls Try.prog 16 #[congVal x t d f r, .int .i64 n] w fun e w' => e = .returned (lostOf (congOk x t d && decide (0 ≤ n ∧ n ≤ 8000)) x t d f r n) ∧ Since w w' := by
  have ho := fun wx => implCongOk x t d f r wx
  have hu := fun wx => isUnderWay n wx
  generalize congOk x t d = k at ho ⊢
  unfold lostOf congVal at *
  cases k
  · simp only [Bool.false_and, Bool.false_eq_true, if_false]
    clear hu
    go_enter Try.func16, Try.ntmps16
    go_wp2_with (go_at_call 13; refine (ho _).mono ?_; rintro _ _ ⟨rfl, rfl⟩)
    refine bodyPost_ret (v := .agg #[.int .i64 x, .int .i64 t, .int .i64 d, .bool f, .int .u32 r]) ?_ rfl ⟨rfl, by repeat (first | exact Since.refl _ | apply Since.drew | apply Since.alloc)⟩
    simp [results, go_sem]
  by_cases hn : 0 ≤ n ∧ n ≤ 8000
  · have hh := fun wx => implHalved n hn.1 hn.2 wx
    have hd : decide (0 ≤ n ∧ n ≤ 8000) = true := by simp [hn]
    rw [hd] at hu ⊢
    clear hd hn
    simp only [Bool.and_self, if_true]
    generalize max (n / 2) 200 = m at hh ⊢
    go_enter Try.func16, Try.ntmps16
    go_wp2_with (first | (go_at_call 13; refine (ho _).mono ?_; rintro _ _ ⟨rfl, rfl⟩) | (go_at_call 27; refine (hu _).mono ?_; rintro _ _ ⟨rfl, rfl⟩) | (go_at_call 30; refine (hh _).mono ?_; rintro _ _ ⟨rfl, rfl⟩))
    refine bodyPost_ret (v := .agg #[.int .i64 100, .int .i64 m, .int .i64 0, .bool false, .int .u32 0]) ?_ rfl ⟨rfl, by repeat (first | exact Since.refl _ | apply Since.drew | apply Since.alloc)⟩
    simp [results, go_sem]
  · have hd : decide (0 ≤ n ∧ n ≤ 8000) = false := by simp [hn]
    rw [hd] at hu ⊢
    clear hd hn
    simp only [Bool.and_false, Bool.false_eq_true, if_false]
    go_enter Try.func16, Try.ntmps16
    go_wp2_with (first | (go_at_call 13; refine (ho _).mono ?_; rintro _ _ ⟨rfl, rfl⟩) | (go_at_call 27; refine (hu _).mono ?_; rintro _ _ ⟨rfl, rfl⟩))
    refine bodyPost_ret (v := .agg #[.int .i64 x, .int .i64 t, .int .i64 d, .bool f, .int .u32 r]) ?_ rfl ⟨rfl, by repeat (first | exact Since.refl _ | apply Since.drew | apply Since.alloc)⟩
    simp [results, go_sem]

theorem specLost (x t d : Int) (f : Bool) (r n : Int) (w : World) :
    Calls Try.prog 22 #[congVal x t d f r, .int .i64 n] w fun e w' => e = .returned (lostOf (congOk x t d && decide (0 ≤ n ∧ n ≤ 8000)) x t d f r n) ∧ Since w w' := by
  have ho := fun wx => specCongOk x t d f r wx
  have hu := fun wx => specIn n 0 8000 wx
  generalize congOk x t d = k at ho ⊢
  unfold lostOf congVal at *
  cases k
  · simp only [Bool.false_and, Bool.false_eq_true, if_false]
    clear hu
    go_enter Try.func22, Try.ntmps22
    go_wp2_with (go_at_call 12; refine (ho _).mono ?_; rintro _ _ ⟨rfl, rfl⟩)
    refine bodyPost_ret (v := .agg #[.int .i64 x, .int .i64 t, .int .i64 d, .bool f, .int .u32 r]) ?_ rfl ⟨rfl, by repeat (first | exact Since.refl _ | apply Since.drew | apply Since.alloc)⟩
    simp [results, go_sem]
  by_cases hn : 0 ≤ n ∧ n ≤ 8000
  · have hh := fun wx => specClip (n / 2) 200 8000 (by omega) wx
    rw [show min (max (n / 2) 200) 8000 = max (n / 2) 200 by omega] at hh
    have hd : decide (0 ≤ n ∧ n ≤ 8000) = true := by simp [hn]
    rw [hd] at hu ⊢
    obtain ⟨n0, n1⟩ := hn
    clear hd
    simp only [Bool.and_self, if_true]
    generalize max (n / 2) 200 = m at hh ⊢
    go_enter Try.func22, Try.ntmps22
    go_wp2_with (first | (go_at_call 12; refine (ho _).mono ?_; rintro _ _ ⟨rfl, rfl⟩) | (go_at_call 29; refine (hu _).mono ?_; rintro _ _ ⟨rfl, rfl⟩) | (go_at_call 31; refine (hh _).mono ?_; rintro _ _ ⟨rfl, rfl⟩))
    refine bodyPost_ret (v := .agg #[.int .i64 100, .int .i64 m, .int .i64 0, .bool false, .int .u32 0]) ?_ rfl ⟨rfl, by repeat (first | exact Since.refl _ | apply Since.drew | apply Since.alloc)⟩
    simp [results, go_sem]
  · have hd : decide (0 ≤ n ∧ n ≤ 8000) = false := by simp [hn]
    rw [hd] at hu ⊢
    clear hd hn
    simp only [Bool.and_false, Bool.false_eq_true, if_false]
    go_enter Try.func22, Try.ntmps22
    go_wp2_with (first | (go_at_call 12; refine (ho _).mono ?_; rintro _ _ ⟨rfl, rfl⟩) | (go_at_call 29; refine (hu _).mono ?_; rintro _ _ ⟨rfl, rfl⟩))
    refine bodyPost_ret (v := .agg #[.int .i64 x, .int .i64 t, .int .i64 d, .bool f, .int .u32 r]) ?_ rfl ⟨rfl, by repeat (first | exact Since.refl _ | apply Since.drew | apply Since.alloc)⟩
    simp [results, go_sem]
end Go.Proofs.Ytakcalmmbknobaa
