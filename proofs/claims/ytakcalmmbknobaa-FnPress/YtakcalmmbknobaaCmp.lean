/-
  Contracts of impl's and spec's SeqDist, SeqLess, SeqLessEq, SeqMax over those of Seq: at every two words; no condition but that the arguments are words.
-/
import Derived.Test.YtakcalmmbknobaaSeq
namespace Go.Proofs.Ytakcalmmbknobaa
open Go.ChangeShapes Go.WideShapes Go.ChangeAt Go.RowKit
set_option linter.unusedVariables false

theorem less (a b d : Int) (ha : IsWord a) (hb : IsWord b) (hd : IsDist a b d) (w : World) :
    Calls Try.prog 48 #[.int .u32 a, .int .u32 b] w fun e w' => e = .returned (.bool (decide (0 < d))) ∧ w = w' := by
  go_enter Try.func48, Try.ntmps48
  go_wp2_with (go_at_call 49; refine (distTo a b d ha hb hd _).mono ?_; rintro _ _ ⟨rfl, rfl⟩)
  go_ret
  exact ⟨rfl, rfl⟩

theorem implLess (a b d : Int) (ha : IsWord a) (hb : IsWord b) (hd : IsDist a b d) (w : World) :
    Calls Try.prog 47 #[.int .u32 a, .int .u32 b] w fun e w' => e = .returned (.bool (decide (0 < d))) ∧ w = w' := by
  go_enter Try.func47, Try.ntmps47
  go_wp2_with (go_at_call 48; refine (less a b d ha hb hd _).mono ?_; rintro _ _ ⟨rfl, rfl⟩)
  go_ret
  exact ⟨rfl, rfl⟩

theorem specLess (a b d : Int) (ha : IsWord a) (hb : IsWord b) (hd : IsDist a b d) (w : World) :
    Calls Try.prog 42 #[.int .u32 a, .int .u32 b] w fun e w' => e = .returned (.bool (decide (0 < d))) ∧ w = w' := by
  go_enter Try.func42, Try.ntmps42
  go_wp2_with (go_at_call 46; refine (specDist a b d ha hb hd _).mono ?_; rintro _ _ ⟨rfl, rfl⟩)
  go_ret
  exact ⟨rfl, rfl⟩

theorem implLessEq (a b d : Int) (ha : IsWord a) (hb : IsWord b) (hd : IsDist a b d) (w : World) :
    Calls Try.prog 45 #[.int .u32 a, .int .u32 b] w fun e w' => e = .returned (.bool (decide (0 ≤ d))) ∧ w = w' := by
  by_cases h : a = b
  · have hp : decide (0 ≤ d) = true := by
      obtain ⟨h1, h2, h3⟩ := hd
      simp
      omega
    have he : (a == b) = true := by simpa using h
    go_enter Try.func45, Try.ntmps45
    go_wp2
    go_ret
    rw [hp]
    exact ⟨rfl, rfl⟩
  · have he : (a == b) = false := by simpa using h
    go_enter Try.func45, Try.ntmps45
    go_wp2_with (go_at_call 47; refine (implLess a b d ha hb hd _).mono ?_; rintro _ _ ⟨rfl, rfl⟩)
    go_ret
    have hp : decide (0 < d) = decide (0 ≤ d) := by
      obtain ⟨h1, h2, h3⟩ := hd
      obtain ⟨h4, h5⟩ := ha
      obtain ⟨h6, h7⟩ := hb
      simp
      omega
    rw [← hp]
    exact ⟨rfl, rfl⟩

theorem specLessEq (a b d : Int) (ha : IsWord a) (hb : IsWord b) (hd : IsDist a b d) (w : World) :
    Calls Try.prog 32 #[.int .u32 a, .int .u32 b] w fun e w' => e = .returned (.bool (decide (0 ≤ d))) ∧ w = w' := by
  by_cases h : a = b
  · have hp : decide (0 ≤ d) = true := by
      obtain ⟨h1, h2, h3⟩ := hd
      simp
      omega
    have he : (a == b) = true := by simpa using h
    go_enter Try.func32, Try.ntmps32
    go_wp2
    go_ret
    rw [hp]
    exact ⟨rfl, rfl⟩
  · have he : (a == b) = false := by simpa using h
    go_enter Try.func32, Try.ntmps32
    go_wp2_with (go_at_call 42; refine (specLess a b d ha hb hd _).mono ?_; rintro _ _ ⟨rfl, rfl⟩)
    go_ret
    have hp : decide (0 < d) = decide (0 ≤ d) := by
      obtain ⟨h1, h2, h3⟩ := hd
      obtain ⟨h4, h5⟩ := ha
      obtain ⟨h6, h7⟩ := hb
      simp
      omega
    rw [← hp]
    exact ⟨rfl, rfl⟩
end Go.Proofs.Ytakcalmmbknobaa
