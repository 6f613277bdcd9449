/-
  Contracts of impl's and spec's SeqDist, SeqLess, SeqLessEq, SeqMax over those of Seq: at every two words; no condition but that the arguments are words.
-/
import Derived.Test.YtffjedjkfhdolaaSeq
namespace Go.Proofs.Ytffjedjkfhdolaa
open Go.ChangeShapes Go.WideShapes Go.ChangeAt Go.RowKit
set_option linter.unusedVariables false

theorem implDist (a b d : Int) (ha : IsWord a) (hb : IsWord b) (hd : IsDist a b d) (w : World) :
    Calls Try.prog 11 #[.int .u32 a, .int .u32 b] w fun e w' => e = .returned (.int .i64 d) ∧ w = w' := by
  go_enter Try.func11, Try.ntmps11
  go_wp2_with (go_at_call 29; refine (distTo a b d ha hb hd _).mono ?_; rintro _ _ ⟨rfl, rfl⟩)
  go_ret
  exact ⟨rfl, rfl⟩

theorem less (a b d : Int) (ha : IsWord a) (hb : IsWord b) (hd : IsDist a b d) (w : World) :
    Calls Try.prog 30 #[.int .u32 a, .int .u32 b] w fun e w' => e = .returned (.bool (decide (0 < d))) ∧ w = w' := by
  go_enter Try.func30, Try.ntmps30
  go_wp2_with (go_at_call 29; refine (distTo a b d ha hb hd _).mono ?_; rintro _ _ ⟨rfl, rfl⟩)
  go_ret
  exact ⟨rfl, rfl⟩

theorem implLess (a b d : Int) (ha : IsWord a) (hb : IsWord b) (hd : IsDist a b d) (w : World) :
    Calls Try.prog 13 #[.int .u32 a, .int .u32 b] w fun e w' => e = .returned (.bool (decide (0 < d))) ∧ w = w' := by
  go_enter Try.func13, Try.ntmps13
  go_wp2_with (go_at_call 30; refine (less a b d ha hb hd _).mono ?_; rintro _ _ ⟨rfl, rfl⟩)
  go_ret
  exact ⟨rfl, rfl⟩

theorem specLess (a b d : Int) (ha : IsWord a) (hb : IsWord b) (hd : IsDist a b d) (w : World) :
    Calls Try.prog 24 #[.int .u32 a, .int .u32 b] w fun e w' => e = .returned (.bool (decide (0 < d))) ∧ w = w' := by
  go_enter Try.func24, Try.ntmps24
  go_wp2_with (go_at_call 27; refine (specDist a b d ha hb hd _).mono ?_; rintro _ _ ⟨rfl, rfl⟩)
  go_ret
  exact ⟨rfl, rfl⟩

theorem implLessEq (a b d : Int) (ha : IsWord a) (hb : IsWord b) (hd : IsDist a b d) (w : World) :
    Calls Try.prog 15 #[.int .u32 a, .int .u32 b] w fun e w' => e = .returned (.bool (decide (0 ≤ d))) ∧ w = w' := by
  by_cases h : a = b
  · have hp : decide (0 ≤ d) = true := by
      obtain ⟨h1, h2, h3⟩ := hd
      simp
      omega
    have he : (a == b) = true := by simpa using h
    go_enter Try.func15, Try.ntmps15
    go_wp2
    go_ret
    rw [hp]
    exact ⟨rfl, rfl⟩
  · have he : (a == b) = false := by simpa using h
    go_enter Try.func15, Try.ntmps15
    go_wp2_with (go_at_call 13; refine (implLess a b d ha hb hd _).mono ?_; rintro _ _ ⟨rfl, rfl⟩)
    go_ret
    have hp : decide (0 < d) = decide (0 ≤ d) := by
      obtain ⟨h1, h2, h3⟩ := hd
      obtain ⟨h4, h5⟩ := ha
      obtain ⟨h6, h7⟩ := hb
      simp
      omega
    rw [← hp]
    exact ⟨rfl, rfl⟩

theorem specLessEq (a b d : Int) (ha : IsWord a) (hb : IsWord b) (hd : IsDist a b d) (w : World) :
    Calls Try.prog 25 #[.int .u32 a, .int .u32 b] w fun e w' => e = .returned (.bool (decide (0 ≤ d))) ∧ w = w' := by
  by_cases h : a = b
  · have hp : decide (0 ≤ d) = true := by
      obtain ⟨h1, h2, h3⟩ := hd
      simp
      omega
    have he : (a == b) = true := by simpa using h
    go_enter Try.func25, Try.ntmps25
    go_wp2
    go_ret
    rw [hp]
    exact ⟨rfl, rfl⟩
  · have he : (a == b) = false := by simpa using h
    go_enter Try.func25, Try.ntmps25
    go_wp2_with (go_at_call 24; refine (specLess a b d ha hb hd _).mono ?_; rintro _ _ ⟨rfl, rfl⟩)
    go_ret
    have hp : decide (0 < d) = decide (0 ≤ d) := by
      obtain ⟨h1, h2, h3⟩ := hd
      obtain ⟨h4, h5⟩ := ha
      obtain ⟨h6, h7⟩ := hb
      simp
      omega
    rw [← hp]
    exact ⟨rfl, rfl⟩

theorem implMax (a b d : Int) (ha : IsWord a) (hb : IsWord b) (hd : IsDist a b d) (w : World) :
    Calls Try.prog 14 #[.int .u32 a, .int .u32 b] w fun e w' => e = .returned (.int .u32 (if 0 < d then b else a)) ∧ w = w' := by
  by_cases h : 0 < d
  · rw [if_pos h]
    go_enter Try.func14, Try.ntmps14
    go_wp2_with (go_at_call 13; refine (implLess a b d ha hb hd _).mono ?_; rintro _ _ ⟨rfl, rfl⟩)
    go_ret
    exact ⟨rfl, rfl⟩
  · rw [if_neg h]
    go_enter Try.func14, Try.ntmps14
    go_wp2_with (go_at_call 13; refine (implLess a b d ha hb hd _).mono ?_; rintro _ _ ⟨rfl, rfl⟩)
    go_ret
    exact ⟨rfl, rfl⟩

theorem specMax (a b d : Int) (ha : IsWord a) (hb : IsWord b) (hd : IsDist a b d) (w : World) :
    Calls Try.prog 26 #[.int .u32 a, .int .u32 b] w fun e w' => e = .returned (.int .u32 (if 0 < d then b else a)) ∧ w = w' := by
  by_cases h : 0 < d
  · rw [if_pos h]
    go_enter Try.func26, Try.ntmps26
    go_wp2_with (go_at_call 24; refine (specLess a b d ha hb hd _).mono ?_; rintro _ _ ⟨rfl, rfl⟩)
    go_ret
    exact ⟨rfl, rfl⟩
  · rw [if_neg h]
    go_enter Try.func26, Try.ntmps26
    go_wp2_with (go_at_call 24; refine (specLess a b d ha hb hd _).mono ?_; rintro _ _ ⟨rfl, rfl⟩)
    go_ret
    exact ⟨rfl, rfl⟩
end Go.Proofs.Ytffjedjkfhdolaa
