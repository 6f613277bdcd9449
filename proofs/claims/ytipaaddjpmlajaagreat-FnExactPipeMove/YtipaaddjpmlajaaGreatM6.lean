/-
  Contracts of impl's and spec's RttOk and of the laws' copying of a wait, at every wait.
  Contracts of impl's and spec's SeqDist, SeqLess, SeqLessEq, SeqMax over those of Seq: at every two words; no condition but that the arguments are words.
  Contracts of impl's and spec's CongOk, CongStart and CongLost, of impl's small methods over what may be under way, of spec's clipping, and of the laws' copying, at every value.
-/
import Derived.Test.YtipaaddjpmlajaaGreatM1
namespace Go.Proofs.YtipaaddjpmlajaaGreat
open Go.ChangeShapes Go.WideShapes Go.ChangeAt Go.RowKit
set_option linter.unusedVariables false
set_option maxRecDepth 10000

/-- A wait as a value. -/
def rttVal (a : Bool) (s v h : Int) : Value := .agg #[.bool a, .int .i64 s, .int .i64 v, .int .i64 h]

/-- What RttOk answers. -/
def rttOk (a : Bool) (s v h : Int) : Bool := decide (0 ≤ s ∧ s ≤ 800000) && (decide (0 ≤ v ∧ v ≤ 400000) && (decide (0 ≤ h ∧ h ≤ 8) && (a || (decide (s = 0) && decide (v = 0)))))

theorem implRttOk (a : Bool) (s v h : Int) (w : World) :
    Calls Tryz.prog 94 #[rttVal a s v h] w fun e w' => e = .returned (.bool (rttOk a s v h)) ∧ w' = w.alloc (.cells #[.bool a, .int .i64 s, .int .i64 v, .int .i64 h] 43) := by
  unfold rttVal
  go_enter Tryz.func94, Tryz.ntmps94
  go_wp2
  all_goals go_ret
  all_goals refine ⟨ret_bool ?_, by first | rfl | simp [*]⟩
  all_goals rw [Bool.eq_iff_iff]
  all_goals simp [rttOk, *]
  all_goals omega

theorem specRttOk (a : Bool) (s v h : Int) (w : World) :
    Calls Tryz.prog 59 #[rttVal a s v h] w fun e w' => e = .returned (.bool (rttOk a s v h)) ∧ w' = w.alloc (.cells #[.bool a, .int .i64 s, .int .i64 v, .int .i64 h] 43) := by
  unfold rttVal rttOk
  have i1 := fun wx => specIn s 0 800000 wx
  have i2 := fun wx => specIn v 0 400000 wx
  have i3 := fun wx => specIn h 0 8 wx
  generalize decide (0 ≤ s ∧ s ≤ 800000) = b1 at i1 ⊢
  generalize decide (0 ≤ v ∧ v ≤ 400000) = b2 at i2 ⊢
  generalize decide (0 ≤ h ∧ h ≤ 8) = b3 at i3 ⊢
  go_enter Tryz.func59, Tryz.ntmps59
  cases b1
  · go_wp2_with (go_at_call 56; refine (i1 _).mono ?_; clear i1; rintro _ _ ⟨rfl, rfl⟩)
    go_ret
    exact ⟨rfl, rfl⟩
  cases b2
  · go_wp2_with (first | (go_at_call 56; refine (i1 _).mono ?_; clear i1; rintro _ _ ⟨rfl, rfl⟩) | (go_at_call 56; refine (i2 _).mono ?_; rintro _ _ ⟨rfl, rfl⟩))
    go_ret
    exact ⟨rfl, rfl⟩
  go_wp2_with (first | (go_at_call 56; refine (i1 _).mono ?_; clear i1; rintro _ _ ⟨rfl, rfl⟩) | (go_at_call 56; refine (i2 _).mono ?_; clear i2; rintro _ _ ⟨rfl, rfl⟩) | (go_at_call 56; refine (i3 _).mono ?_; clear i3; rintro _ _ ⟨rfl, rfl⟩))
  all_goals go_ret
  all_goals refine ⟨ret_bool ?_, by first | rfl | simp [*]⟩
  all_goals rw [Bool.eq_iff_iff]
  all_goals simp_all

theorem toRtt (a : Bool) (s v h : Int) (w : World) :
    Calls Tryz.prog 34 #[rttVal a s v h] w fun e w' => e = .returned (rttVal a s v h) ∧ Since w w' := by
  unfold rttVal
  go_enter Tryz.func34, Tryz.ntmps34
  go_wp2
  refine bodyPost_ret (v := .agg #[.bool a, .int .i64 s, .int .i64 v, .int .i64 h]) ?_ rfl ⟨rfl, by repeat (first | exact Since.refl _ | apply Since.drew | apply Since.alloc)⟩
  simp [results, go_sem]

theorem eqRtt (a : Bool) (s v h : Int) (w : World) :
    Calls Tryz.prog 44 #[rttVal a s v h, rttVal a s v h] w fun e w' => e = .returned (.bool true) ∧ Since w w' := by
  unfold rttVal
  go_enter Tryz.func44, Tryz.ntmps44
  go_wp2
  go_ret
  exact ⟨rfl, by repeat (first | exact Since.refl _ | apply Since.drew | apply Since.alloc)⟩
end Go.Proofs.YtipaaddjpmlajaaGreat

namespace Go.Proofs.YtipaaddjpmlajaaGreat
open Go.ChangeShapes Go.WideShapes Go.ChangeAt Go.RowKit
set_option linter.unusedVariables false
set_option maxRecDepth 10000

theorem implDist (a b d : Int) (ha : IsWord a) (hb : IsWord b) (hd : IsDist a b d) (w : World) :
    Calls Tryz.prog 96 #[.int .u32 a, .int .u32 b] w fun e w' => e = .returned (.int .i64 d) ∧ w = w' := by
  go_enter Tryz.func96, Tryz.ntmps96
  go_wp2_with (go_at_call 114; refine (distTo a b d ha hb hd _).mono ?_; rintro _ _ ⟨rfl, rfl⟩)
  go_ret
  exact ⟨rfl, rfl⟩

theorem less (a b d : Int) (ha : IsWord a) (hb : IsWord b) (hd : IsDist a b d) (w : World) :
    Calls Tryz.prog 131 #[.int .u32 a, .int .u32 b] w fun e w' => e = .returned (.bool (decide (0 < d))) ∧ w = w' := by
  go_enter Tryz.func131, Tryz.ntmps131
  go_wp2_with (go_at_call 114; refine (distTo a b d ha hb hd _).mono ?_; rintro _ _ ⟨rfl, rfl⟩)
  go_ret
  exact ⟨rfl, rfl⟩

theorem implLess (a b d : Int) (ha : IsWord a) (hb : IsWord b) (hd : IsDist a b d) (w : World) :
    Calls Tryz.prog 115 #[.int .u32 a, .int .u32 b] w fun e w' => e = .returned (.bool (decide (0 < d))) ∧ w = w' := by
  go_enter Tryz.func115, Tryz.ntmps115
  go_wp2_with (go_at_call 131; refine (less a b d ha hb hd _).mono ?_; rintro _ _ ⟨rfl, rfl⟩)
  go_ret
  exact ⟨rfl, rfl⟩

theorem specLess (a b d : Int) (ha : IsWord a) (hb : IsWord b) (hd : IsDist a b d) (w : World) :
    Calls Tryz.prog 89 #[.int .u32 a, .int .u32 b] w fun e w' => e = .returned (.bool (decide (0 < d))) ∧ w = w' := by
  go_enter Tryz.func89, Tryz.ntmps89
  go_wp2_with (go_at_call 61; refine (specDist a b d ha hb hd _).mono ?_; rintro _ _ ⟨rfl, rfl⟩)
  go_ret
  exact ⟨rfl, rfl⟩

theorem implLessEq (a b d : Int) (ha : IsWord a) (hb : IsWord b) (hd : IsDist a b d) (w : World) :
    Calls Tryz.prog 97 #[.int .u32 a, .int .u32 b] w fun e w' => e = .returned (.bool (decide (0 ≤ d))) ∧ w = w' := by
  by_cases h : a = b
  · have hp : decide (0 ≤ d) = true := by
      obtain ⟨h1, h2, h3⟩ := hd
      simp
      omega
    have he : (a == b) = true := by simpa using h
    go_enter Tryz.func97, Tryz.ntmps97
    go_wp2
    go_ret
    rw [hp]
    exact ⟨rfl, rfl⟩
  · have he : (a == b) = false := by simpa using h
    go_enter Tryz.func97, Tryz.ntmps97
    go_wp2_with (go_at_call 115; refine (implLess a b d ha hb hd _).mono ?_; rintro _ _ ⟨rfl, rfl⟩)
    go_ret
    have hp : decide (0 < d) = decide (0 ≤ d) := by
      obtain ⟨h1, h2, h3⟩ := hd
      obtain ⟨h4, h5⟩ := ha
      obtain ⟨h6, h7⟩ := hb
      simp
      omega
    rw [← hp]
    exact ⟨rfl, rfl⟩

theorem specLessEq (a b d : Int) (ha : IsWord a) (hb : IsWord b) (hd : IsDist a b d) (w : World) :
    Calls Tryz.prog 62 #[.int .u32 a, .int .u32 b] w fun e w' => e = .returned (.bool (decide (0 ≤ d))) ∧ w = w' := by
  by_cases h : a = b
  · have hp : decide (0 ≤ d) = true := by
      obtain ⟨h1, h2, h3⟩ := hd
      simp
      omega
    have he : (a == b) = true := by simpa using h
    go_enter Tryz.func62, Tryz.ntmps62
    go_wp2
    go_ret
    rw [hp]
    exact ⟨rfl, rfl⟩
  · have he : (a == b) = false := by simpa using h
    go_enter Tryz.func62, Tryz.ntmps62
    go_wp2_with (go_at_call 89; refine (specLess a b d ha hb hd _).mono ?_; rintro _ _ ⟨rfl, rfl⟩)
    go_ret
    have hp : decide (0 < d) = decide (0 ≤ d) := by
      obtain ⟨h1, h2, h3⟩ := hd
      obtain ⟨h4, h5⟩ := ha
      obtain ⟨h6, h7⟩ := hb
      simp
      omega
    rw [← hp]
    exact ⟨rfl, rfl⟩
end Go.Proofs.YtipaaddjpmlajaaGreat

namespace Go.Proofs.YtipaaddjpmlajaaGreat
open Go.ChangeShapes Go.WideShapes Go.ChangeAt Go.RowKit
set_option linter.unusedVariables false
set_option maxRecDepth 10000

/-- What may be under way, as a value. -/
def congVal (x t d : Int) (f : Bool) (r : Int) : Value := .agg #[.int .i64 x, .int .i64 t, .int .i64 d, .bool f, .int .u32 r]

/-- What CongOk answers. -/
def congOk (x t d : Int) : Bool := decide (100 ≤ x ∧ x ≤ 8000) && (decide (200 ≤ t ∧ t ≤ 8000) && decide (0 ≤ d ∧ d ≤ 1000000))

theorem implCongOk (x t d : Int) (f : Bool) (r : Int) (w : World) :
    Calls Tryz.prog 95 #[congVal x t d f r] w fun e w' => e = .returned (.bool (congOk x t d)) ∧ w' = w.alloc (.cells #[.int .i64 x, .int .i64 t, .int .i64 d, .bool f, .int .u32 r] 44) := by
  unfold congVal
  go_enter Tryz.func95, Tryz.ntmps95
  go_wp2
  all_goals go_ret
  all_goals refine ⟨ret_bool ?_, by first | rfl | simp [*]⟩
  all_goals rw [Bool.eq_iff_iff]
  all_goals simp [congOk, *]
  all_goals omega

theorem specCongOk (x t d : Int) (f : Bool) (r : Int) (w : World) :
    Calls Tryz.prog 60 #[congVal x t d f r] w fun e w' => e = .returned (.bool (congOk x t d)) ∧ w' = w.alloc (.cells #[.int .i64 x, .int .i64 t, .int .i64 d, .bool f, .int .u32 r] 44) := by
  unfold congVal congOk
  have i1 := fun wx => specIn x 100 8000 wx
  have i2 := fun wx => specIn t 200 8000 wx
  have i3 := fun wx => specIn d 0 1000000 wx
  generalize decide (100 ≤ x ∧ x ≤ 8000) = b1 at i1 ⊢
  generalize decide (200 ≤ t ∧ t ≤ 8000) = b2 at i2 ⊢
  generalize decide (0 ≤ d ∧ d ≤ 1000000) = b3 at i3 ⊢
  go_enter Tryz.func60, Tryz.ntmps60
  cases b1
  · go_wp2_with (go_at_call 56; refine (i1 _).mono ?_; clear i1; rintro _ _ ⟨rfl, rfl⟩)
    go_ret
    exact ⟨rfl, rfl⟩
  cases b2
  · go_wp2_with (first | (go_at_call 56; refine (i1 _).mono ?_; clear i1; rintro _ _ ⟨rfl, rfl⟩) | (go_at_call 56; refine (i2 _).mono ?_; rintro _ _ ⟨rfl, rfl⟩))
    go_ret
    exact ⟨rfl, rfl⟩
  go_wp2_with (first | (go_at_call 56; refine (i1 _).mono ?_; clear i1; rintro _ _ ⟨rfl, rfl⟩) | (go_at_call 56; refine (i2 _).mono ?_; clear i2; rintro _ _ ⟨rfl, rfl⟩) | (go_at_call 56; refine (i3 _).mono ?_; clear i3; rintro _ _ ⟨rfl, rfl⟩))
  all_goals go_ret
  all_goals refine ⟨ret_bool ?_, by first | rfl | simp [*]⟩
  all_goals rw [Bool.eq_iff_iff]
  all_goals simp_all

theorem toCong (x t d : Int) (f : Bool) (r : Int) (w : World) :
    Calls Tryz.prog 35 #[congVal x t d f r] w fun e w' => e = .returned (congVal x t d f r) ∧ Since w w' := by
  unfold congVal
  go_enter Tryz.func35, Tryz.ntmps35
  go_wp2
  refine bodyPost_ret (v := .agg #[.int .i64 x, .int .i64 t, .int .i64 d, .bool f, .int .u32 r]) ?_ rfl ⟨rfl, by repeat (first | exact Since.refl _ | apply Since.drew | apply Since.alloc)⟩
  simp [results, go_sem]

theorem eqCong (x t d : Int) (f : Bool) (r : Int) (w : World) :
    Calls Tryz.prog 45 #[congVal x t d f r, congVal x t d f r] w fun e w' => e = .returned (.bool true) ∧ Since w w' := by
  unfold congVal
  go_enter Tryz.func45, Tryz.ntmps45
  go_wp2
  go_ret
  exact ⟨rfl, by repeat (first | exact Since.refl _ | apply Since.drew | apply Since.alloc)⟩

theorem specClip (x a b : Int) (h : a ≤ b) (w : World) :
    Calls Tryz.prog 30 #[.int .i64 x, .int .i64 a, .int .i64 b] w fun e w' => e = .returned (.int .i64 (min (max x a) b)) ∧ w = w' := by
  go_enter Tryz.func30, Tryz.ntmps30
  go_wp2
  all_goals go_ret
  all_goals exact ⟨ret_int (by omega), rfl⟩
end Go.Proofs.YtipaaddjpmlajaaGreat
