/-
  Contracts of the functions on windows: InWindow, Overlaps and Unwrap, impl's and spec's, at every argument; no condition but that words are words and ints are ints.
-/
import Derived.Test.YtffjedjkfhdolaaSeq
namespace Go.Proofs.Ytffjedjkfhdolaa
open Go.ChangeShapes Go.WideShapes Go.ChangeAt Go.RowKit
set_option linter.unusedVariables false

/-- m is how far b is ahead of a, round the words, as a number from 0 on. -/
def IsAhead (a b m : Int) : Prop := 0 ≤ m ∧ m < 4294967296 ∧ (b - a - m) % 4294967296 = 0

theorem isAhead_ex (a b : Int) : ∃ m, IsAhead a b m := ⟨(b - a) % 4294967296, by unfold IsAhead; omega⟩

/-- x is an int. -/
def IsInt (x : Int) : Prop := -9223372036854775808 ≤ x ∧ x ≤ 9223372036854775807

theorem within (p l n m : Int) (hp : IsWord p) (hl : IsWord l) (hm : IsAhead l p m) (w : World) :
    Calls Try.prog 40 #[.int .u32 p, .int .u32 l, .int .i64 n] w fun e w' => e = .returned (.bool (decide (m < n))) ∧ w = w' := by
  obtain ⟨h1, h2, h3⟩ := hm
  have e1 : (p - l) % 4294967296 = m := by omega
  obtain ⟨hp, hp'⟩ := hp
  obtain ⟨hl, hl'⟩ := hl
  go_enter Try.func40, Try.ntmps40
  go_wp2
  go_ret
  exact ⟨rfl, rfl⟩

theorem ahead (a b m : Int) (ha : IsWord a) (hb : IsWord b) (hm : IsAhead a b m) (w : World) :
    Calls Try.prog 43 #[.int .u32 a, .int .u32 b] w fun e w' => e = .returned (.int .i64 m) ∧ w = w' := by
  obtain ⟨d, hd⟩ := isDist_ex a b
  have hk := hd
  obtain ⟨k1, k2, k3⟩ := hk
  obtain ⟨h1, h2, h3⟩ := hm
  by_cases h : d < 0
  · go_enter Try.func43, Try.ntmps43
    go_wp2_with (go_at_call 27; refine (specDist a b d ha hb hd _).mono ?_; rintro _ _ ⟨rfl, rfl⟩)
    go_ret
    have e1 : d + 4294967296 = m := by omega
    exact ⟨by simp [e1], rfl⟩
  · go_enter Try.func43, Try.ntmps43
    go_wp2_with (go_at_call 27; refine (specDist a b d ha hb hd _).mono ?_; rintro _ _ ⟨rfl, rfl⟩)
    go_ret
    have e1 : d = m := by omega
    exact ⟨by simp [e1], rfl⟩

theorem implInWindow (s l n m : Int) (hs : IsWord s) (hl : IsWord l) (hm : IsAhead l s m) (w : World) :
    Calls Try.prog 21 #[.int .u32 s, .int .u32 l, .int .i64 n] w fun e w' => e = .returned (.bool (decide (0 ≤ n ∧ n ≤ 2147483647 ∧ m < n))) ∧ w = w' := by
  by_cases h1 : 0 ≤ n
  · by_cases h2 : n ≤ 2147483647
    · have e1 : decide (0 ≤ n ∧ n ≤ 2147483647 ∧ m < n) = decide (m < n) := by simp [h1, h2]
      rw [e1]
      clear e1
      go_enter Try.func21, Try.ntmps21
      go_wp2_with (go_at_call 40; refine (within s l n m hs hl hm _).mono ?_; rintro _ _ ⟨rfl, rfl⟩)
      go_ret
      exact ⟨rfl, rfl⟩
    · have e1 : decide (0 ≤ n ∧ n ≤ 2147483647 ∧ m < n) = false := by simp [h2]
      rw [e1]
      clear e1
      go_enter Try.func21, Try.ntmps21
      go_wp2
      go_ret
      exact ⟨rfl, rfl⟩
  · have e1 : decide (0 ≤ n ∧ n ≤ 2147483647 ∧ m < n) = false := by simp [h1]
    rw [e1]
    clear e1
    go_enter Try.func21, Try.ntmps21
    go_wp2
    go_ret
    exact ⟨rfl, rfl⟩

theorem specIn (x a b : Int) (w : World) :
    Calls Try.prog 42 #[.int .i64 x, .int .i64 a, .int .i64 b] w fun e w' => e = .returned (.bool (decide (a ≤ x ∧ x ≤ b))) ∧ w = w' := by
  by_cases h1 : a ≤ x
  · have e1 : decide (a ≤ x ∧ x ≤ b) = decide (x ≤ b) := by simp [h1]
    rw [e1]
    clear e1
    go_enter Try.func42, Try.ntmps42
    go_wp2
    go_ret
    exact ⟨rfl, rfl⟩
  · have e1 : decide (a ≤ x ∧ x ≤ b) = false := by simp [h1]
    rw [e1]
    clear e1
    go_enter Try.func42, Try.ntmps42
    go_wp2
    go_ret
    exact ⟨rfl, rfl⟩
end Go.Proofs.Ytffjedjkfhdolaa
