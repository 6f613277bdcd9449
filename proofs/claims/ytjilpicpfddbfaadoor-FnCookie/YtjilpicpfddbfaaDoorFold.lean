/-
  Contracts of the ones sum of a number: impl's folded and spec's l02Fold at every number from 0 to 1099511627775; of isHalf; of impl's and spec's SumUpdate at every argument.
-/
import Derived.Test.YtjilpicpfddbfaaDoorWin
import Derived.Laws.BitsAllLaws
namespace Go.Proofs.YtjilpicpfddbfaaDoor
open Go.ChangeShapes Go.WideShapes Go.ChangeAt Go.RowKit
set_option linter.unusedVariables false
set_option maxRecDepth 10000

/-- The ones sum that a sum stands for. -/
def foldOf (n : Int) : Int := if n = 0 then 0 else (n - 1) % 65535 + 1

theorem foldOf_zero : foldOf 0 = 0 := rfl

theorem foldOf_small (n : Int) (h0 : 0 ≤ n) (h1 : n ≤ 65535) : foldOf n = n := by
  unfold foldOf
  split <;> omega

theorem foldOf_range (n : Int) (h0 : 0 ≤ n) : 0 ≤ foldOf n ∧ foldOf n ≤ 65535 := by
  unfold foldOf
  split <;> omega

theorem foldOf_mod (n : Int) (h0 : 0 ≤ n) : foldOf n % 65535 = n % 65535 := by
  unfold foldOf
  split <;> omega

theorem foldOf_pos (n : Int) (h0 : 0 < n) : 0 < foldOf n := by
  unfold foldOf
  split <;> omega

theorem foldOf_step (n : Int) (h : 65535 < n) : foldOf (n % 65536 + n / 65536) = foldOf n := by
  unfold foldOf
  rw [if_neg (by omega), if_neg (by omega)]
  omega

theorem foldOf_add (a b : Int) (ha : 0 ≤ a) (hb : 0 ≤ b) : foldOf (foldOf a + b) = foldOf (a + b) := by
  have h1 := foldOf_range a ha
  have h2 := foldOf_mod a ha
  by_cases h : a = 0
  · subst h
    rw [foldOf_zero]
  · have h3 := foldOf_pos a (by omega)
    generalize foldOf a = f at h1 h2 h3 ⊢
    unfold foldOf
    rw [if_neg (by omega), if_neg (by omega)]
    omega

theorem and65535 (x : Int) (h0 : 0 ≤ x) (h1 : x < 9223372036854775808) : bits .and .i64 x 65535 = x % 65536 := by
  have h : (BitVec.ofInt 64 x &&& BitVec.ofInt 64 65535).toNat = x.toNat % 65536 := by
    rw [BitVec.toNat_and]
    have e1 : (BitVec.ofInt 64 65535).toNat = 2 ^ 16 - 1 := by decide
    have e2 : (BitVec.ofInt 64 x).toNat = x.toNat := by
      rw [BitVec.toNat_ofInt]
      omega
    rw [e1, e2, Nat.and_two_pow_sub_one_eq_mod]
  have e : bits .and .i64 x 65535 = wrap64 ((BitVec.ofInt 64 x &&& BitVec.ofInt 64 65535).toNat : Int) := by
    rw [← IntWalk.i64_left]
    rfl
  rw [e, h, IntWalk.wrap64_in _ ⟨by omega, by omega⟩]
  omega

theorem isHalf (n : Int) (w : World) :
    Calls Tryd.prog 33 #[.int .i64 n] w fun e w' => e = .returned (.bool (decide (0 ≤ n ∧ n ≤ 65535))) ∧ w = w' := by
  by_cases h1 : 0 ≤ n
  · have e1 : decide (0 ≤ n ∧ n ≤ 65535) = decide (n ≤ 65535) := by simp [h1]
    rw [e1]
    clear e1
    go_enter Tryd.func33, Tryd.ntmps33
    go_wp2
    go_ret
    exact ⟨rfl, rfl⟩
  · have e1 : decide (0 ≤ n ∧ n ≤ 65535) = false := by simp [h1]
    rw [e1]
    clear e1
    go_enter Tryd.func33, Tryd.ntmps33
    go_wp2
    go_ret
    exact ⟨rfl, rfl⟩

/-- What SumUpdate answers. -/
def updateOf (s o f : Int) : Int :=
  if (0 ≤ s ∧ s ≤ 65535) ∧ (0 ≤ o ∧ o ≤ 65535) ∧ (0 ≤ f ∧ f ≤ 65535) then 65535 - foldOf (131070 - s - o + f) else -1
end Go.Proofs.YtjilpicpfddbfaaDoor
