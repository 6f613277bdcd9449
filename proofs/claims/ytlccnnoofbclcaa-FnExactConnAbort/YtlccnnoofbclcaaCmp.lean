/-
  Contracts of impl's and spec's SeqDist, SeqLess, SeqLessEq, SeqMax over those of Seq: at every two words; no condition but that the arguments are words.
-/
import Derived.Test.YtlccnnoofbclcaaSeq
namespace Go.Proofs.Ytlccnnoofbclcaa
open Go.ChangeShapes Go.WideShapes Go.ChangeAt Go.RowKit
set_option linter.unusedVariables false
set_option maxRecDepth 10000

theorem implDist (a b d : Int) (ha : IsWord a) (hb : IsWord b) (hd : IsDist a b d) (w : World) :
    Calls Try.prog 88 #[.int .u32 a, .int .u32 b] w fun e w' => e = .returned (.int .i64 d) ∧ w = w' := by
  go_enter Try.func88, Try.ntmps88
  go_wp2_with (go_at_call 97; refine (distTo a b d ha hb hd _).mono ?_; rintro _ _ ⟨rfl, rfl⟩)
  go_ret
  exact ⟨rfl, rfl⟩

theorem less (a b d : Int) (ha : IsWord a) (hb : IsWord b) (hd : IsDist a b d) (w : World) :
    Calls Try.prog 99 #[.int .u32 a, .int .u32 b] w fun e w' => e = .returned (.bool (decide (0 < d))) ∧ w = w' := by
  go_enter Try.func99, Try.ntmps99
  go_wp2_with (go_at_call 97; refine (distTo a b d ha hb hd _).mono ?_; rintro _ _ ⟨rfl, rfl⟩)
  go_ret
  exact ⟨rfl, rfl⟩

theorem implLess (a b d : Int) (ha : IsWord a) (hb : IsWord b) (hd : IsDist a b d) (w : World) :
    Calls Try.prog 98 #[.int .u32 a, .int .u32 b] w fun e w' => e = .returned (.bool (decide (0 < d))) ∧ w = w' := by
  go_enter Try.func98, Try.ntmps98
  go_wp2_with (go_at_call 99; refine (less a b d ha hb hd _).mono ?_; rintro _ _ ⟨rfl, rfl⟩)
  go_ret
  exact ⟨rfl, rfl⟩

theorem specLess (a b d : Int) (ha : IsWord a) (hb : IsWord b) (hd : IsDist a b d) (w : World) :
    Calls Try.prog 84 #[.int .u32 a, .int .u32 b] w fun e w' => e = .returned (.bool (decide (0 < d))) ∧ w = w' := by
  go_enter Try.func84, Try.ntmps84
  go_wp2_with (go_at_call 59; refine (specDist a b d ha hb hd _).mono ?_; rintro _ _ ⟨rfl, rfl⟩)
  go_ret
  exact ⟨rfl, rfl⟩

theorem implLessEq (a b d : Int) (ha : IsWord a) (hb : IsWord b) (hd : IsDist a b d) (w : World) :
    Calls Try.prog 89 #[.int .u32 a, .int .u32 b] w fun e w' => e = .returned (.bool (decide (0 ≤ d))) ∧ w = w' := by
  by_cases h : a = b
  · have hp : decide (0 ≤ d) = true := by
      obtain ⟨h1, h2, h3⟩ := hd
      simp
      omega
    have he : (a == b) = true := by simpa using h
    go_enter Try.func89, Try.ntmps89
    go_wp2
    go_ret
    rw [hp]
    exact ⟨rfl, rfl⟩
  · have he : (a == b) = false := by simpa using h
    go_enter Try.func89, Try.ntmps89
    go_wp2_with (go_at_call 98; refine (implLess a b d ha hb hd _).mono ?_; rintro _ _ ⟨rfl, rfl⟩)
    go_ret
    have hp : decide (0 < d) = decide (0 ≤ d) := by
      obtain ⟨h1, h2, h3⟩ := hd
      obtain ⟨h4, h5⟩ := ha
      obtain ⟨h6, h7⟩ := hb
      simp
      omega
    rw [← hp]
    exact ⟨rfl, rfl⟩

theorem specLessEq (a b d : Int) (ha : IsWord a) (hb : IsWord b) (hd : IsDist a b d) (w : World) :
    Calls Try.prog 60 #[.int .u32 a, .int .u32 b] w fun e w' => e = .returned (.bool (decide (0 ≤ d))) ∧ w = w' := by
  by_cases h : a = b
  · have hp : decide (0 ≤ d) = true := by
      obtain ⟨h1, h2, h3⟩ := hd
      simp
      omega
    have he : (a == b) = true := by simpa using h
    go_enter Try.func60, Try.ntmps60
    go_wp2
    go_ret
    rw [hp]
    exact ⟨rfl, rfl⟩
  · have he : (a == b) = false := by simpa using h
    go_enter Try.func60, Try.ntmps60
    go_wp2_with (go_at_call 84; refine (specLess a b d ha hb hd _).mono ?_; rintro _ _ ⟨rfl, rfl⟩)
    go_ret
    have hp : decide (0 < d) = decide (0 ≤ d) := by
      obtain ⟨h1, h2, h3⟩ := hd
      obtain ⟨h4, h5⟩ := ha
      obtain ⟨h6, h7⟩ := hb
      simp
      omega
    rw [← hp]
    exact ⟨rfl, rfl⟩
end Go.Proofs.Ytlccnnoofbclcaa
