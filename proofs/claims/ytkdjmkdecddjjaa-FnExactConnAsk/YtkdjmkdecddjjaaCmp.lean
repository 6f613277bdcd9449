/-
  Contracts of impl's and spec's SeqDist, SeqLess, SeqLessEq, SeqMax over those of Seq: at every two words; no condition but that the arguments are words.
-/
import Derived.Test.YtkdjmkdecddjjaaSeq
namespace Go.Proofs.Ytkdjmkdecddjjaa
open Go.ChangeShapes Go.WideShapes Go.ChangeAt Go.RowKit
set_option linter.unusedVariables false
set_option maxRecDepth 10000

theorem implDist (a b d : Int) (ha : IsWord a) (hb : IsWord b) (hd : IsDist a b d) (w : World) :
    Calls Try.prog 53 #[.int .u32 a, .int .u32 b] w fun e w' => e = .returned (.int .i64 d) ∧ w = w' := by
  go_enter Try.func53, Try.ntmps53
  go_wp2_with (go_at_call 66; refine (distTo a b d ha hb hd _).mono ?_; rintro _ _ ⟨rfl, rfl⟩)
  go_ret
  exact ⟨rfl, rfl⟩

theorem less (a b d : Int) (ha : IsWord a) (hb : IsWord b) (hd : IsDist a b d) (w : World) :
    Calls Try.prog 71 #[.int .u32 a, .int .u32 b] w fun e w' => e = .returned (.bool (decide (0 < d))) ∧ w = w' := by
  go_enter Try.func71, Try.ntmps71
  go_wp2_with (go_at_call 66; refine (distTo a b d ha hb hd _).mono ?_; rintro _ _ ⟨rfl, rfl⟩)
  go_ret
  exact ⟨rfl, rfl⟩

theorem implLess (a b d : Int) (ha : IsWord a) (hb : IsWord b) (hd : IsDist a b d) (w : World) :
    Calls Try.prog 67 #[.int .u32 a, .int .u32 b] w fun e w' => e = .returned (.bool (decide (0 < d))) ∧ w = w' := by
  go_enter Try.func67, Try.ntmps67
  go_wp2_with (go_at_call 71; refine (less a b d ha hb hd _).mono ?_; rintro _ _ ⟨rfl, rfl⟩)
  go_ret
  exact ⟨rfl, rfl⟩

theorem specLess (a b d : Int) (ha : IsWord a) (hb : IsWord b) (hd : IsDist a b d) (w : World) :
    Calls Try.prog 47 #[.int .u32 a, .int .u32 b] w fun e w' => e = .returned (.bool (decide (0 < d))) ∧ w = w' := by
  go_enter Try.func47, Try.ntmps47
  go_wp2_with (go_at_call 22; refine (specDist a b d ha hb hd _).mono ?_; rintro _ _ ⟨rfl, rfl⟩)
  go_ret
  exact ⟨rfl, rfl⟩

theorem implLessEq (a b d : Int) (ha : IsWord a) (hb : IsWord b) (hd : IsDist a b d) (w : World) :
    Calls Try.prog 54 #[.int .u32 a, .int .u32 b] w fun e w' => e = .returned (.bool (decide (0 ≤ d))) ∧ w = w' := by
  by_cases h : a = b
  · have hp : decide (0 ≤ d) = true := by
      obtain ⟨h1, h2, h3⟩ := hd
      simp
      omega
    have he : (a == b) = true := by simpa using h
    go_enter Try.func54, Try.ntmps54
    go_wp2
    go_ret
    rw [hp]
    exact ⟨rfl, rfl⟩
  · have he : (a == b) = false := by simpa using h
    go_enter Try.func54, Try.ntmps54
    go_wp2_with (go_at_call 67; refine (implLess a b d ha hb hd _).mono ?_; rintro _ _ ⟨rfl, rfl⟩)
    go_ret
    have hp : decide (0 < d) = decide (0 ≤ d) := by
      obtain ⟨h1, h2, h3⟩ := hd
      obtain ⟨h4, h5⟩ := ha
      obtain ⟨h6, h7⟩ := hb
      simp
      omega
    rw [← hp]
    exact ⟨rfl, rfl⟩

theorem specLessEq (a b d : Int) (ha : IsWord a) (hb : IsWord b) (hd : IsDist a b d) (w : World) :
    Calls Try.prog 23 #[.int .u32 a, .int .u32 b] w fun e w' => e = .returned (.bool (decide (0 ≤ d))) ∧ w = w' := by
  by_cases h : a = b
  · have hp : decide (0 ≤ d) = true := by
      obtain ⟨h1, h2, h3⟩ := hd
      simp
      omega
    have he : (a == b) = true := by simpa using h
    go_enter Try.func23, Try.ntmps23
    go_wp2
    go_ret
    rw [hp]
    exact ⟨rfl, rfl⟩
  · have he : (a == b) = false := by simpa using h
    go_enter Try.func23, Try.ntmps23
    go_wp2_with (go_at_call 47; refine (specLess a b d ha hb hd _).mono ?_; rintro _ _ ⟨rfl, rfl⟩)
    go_ret
    have hp : decide (0 < d) = decide (0 ≤ d) := by
      obtain ⟨h1, h2, h3⟩ := hd
      obtain ⟨h4, h5⟩ := ha
      obtain ⟨h6, h7⟩ := hb
      simp
      omega
    rw [← hp]
    exact ⟨rfl, rfl⟩
end Go.Proofs.Ytkdjmkdecddjjaa
