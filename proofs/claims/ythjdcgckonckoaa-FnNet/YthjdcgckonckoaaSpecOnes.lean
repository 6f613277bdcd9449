/-
  Contracts of spec's OnesSum and of impl's and spec's Checksum, at every text.
-/
import Derived.Test.YthjdcgckonckoaaOnes
namespace Go.Proofs.Ythjdcgckonckoaa
open Go.ChangeShapes Go.WideShapes Go.ChangeAt Go.RowKit
set_option linter.unusedVariables false

theorem ones_range (s : ByteArray) : -1 ≤ ones s ∧ ones s ≤ 65535 := by
  unfold ones
  split
  · omega
  · have h := foldOf_range _ (part_range (byteAt s) (byteAt_range s) s.size).1
    omega

theorem ones_neg (s : ByteArray) : ones s < 0 ↔ 2000 < s.size := by
  unfold ones
  split
  · omega
  · have h := foldOf_range _ (part_range (byteAt s) (byteAt_range s) s.size).1
    omega

set_option maxHeartbeats 1000000 in
theorem specOnes (s : ByteArray) (hm : s.size ≤ 1048576) (w : World) :
    Calls Try.prog 40 #[.string s] w fun e w' => e = .returned (.int .i64 (ones s)) ∧ w = w' := by
  by_cases hs : 2000 < s.size
  · rw [ones, if_pos hs]
    have hs' : (2000 : Int) < (s.size : Int) := by omega
    go_enter Try.func40, Try.ntmps40
    go_wp2
    go_ret
    exact ⟨rfl, rfl⟩
  · rw [ones, if_neg hs]
    have hs' : ¬ (2000 : Int) < (s.size : Int) := by omega
    clear hs
    go_enter Try.func40, Try.ntmps40
    go_wp2
    go_loop [3, 4] (fun t i => ∃ k : Nat, k ≤ s.size ∧ i = .int .i64 k ∧ t = .int .i64 (foldOf (part (byteAt s) k))) (fun _ i => s.size - (intOf i).toNat)
    case atStart => exact ⟨0, Nat.zero_le _, rfl, rfl⟩
    case round =>
      obtain ⟨k, hk, rfl, rfl⟩ := hrel
      have ht := Int.tmod_eq_emod_of_nonneg (a := (k : Int)) (b := 2) (by omega)
      have hpr := part_range (byteAt s) (byteAt_range s) k
      have hfr := foldOf_range _ hpr.1
      by_cases hlt : k < s.size
      · have hlt' : (k : Int) < (s.size : Int) := by omega
        have hb0 := byteAt_range s k
        have e0 := byteAt_in s k hlt
        by_cases he : k % 2 = 0
        · have he1 : (k : Int) % 2 = 0 := by omega
          have hp : part (byteAt s) (k + 1) = part (byteAt s) k + 256 * byteAt s k := by simp only [part, he, if_true]
          have hfold := fun wx => specFold (foldOf (part (byteAt s) k) + 256 * byteAt s k) (by omega) (by omega) wx
          rw [foldOf_add _ _ hpr.1 (by omega), ← hp, e0] at hfold
          rw [e0] at hb0
          clear hp e0 hpr
          generalize foldOf (part (byteAt s) k) = q at hfold hfr ⊢
          generalize hq : foldOf (part (byteAt s) (k + 1)) = q' at hfold
          rw [he1] at ht
          clear he1
          go_wp2_with (go_at_call 44; refine (hfold _).mono ?_; rintro _ _ ⟨rfl, rfl⟩)
          go_round
          case rel => exact ⟨k + 1, by omega, by go_num, by rw [hq]⟩
          case measure => simp [intOf]; omega
        · have he1 : (k : Int) % 2 = 1 := by omega
          have hp : part (byteAt s) (k + 1) = part (byteAt s) k + byteAt s k := by simp only [part, he, if_false]
          have hfold := fun wx => specFold (foldOf (part (byteAt s) k) + byteAt s k) (by omega) (by omega) wx
          rw [foldOf_add _ _ hpr.1 (by omega), ← hp, e0] at hfold
          rw [e0] at hb0
          clear hp e0 hpr
          generalize foldOf (part (byteAt s) k) = q at hfold hfr ⊢
          generalize hq : foldOf (part (byteAt s) (k + 1)) = q' at hfold
          rw [he1] at ht
          clear he1
          go_wp2_with (go_at_call 44; refine (hfold _).mono ?_; rintro _ _ ⟨rfl, rfl⟩)
          go_round
          case rel => exact ⟨k + 1, by omega, by go_num, by rw [hq]⟩
          case measure => simp [intOf]; omega
      · obtain rfl : k = s.size := by omega
        go_wp2
        go_ret
        exact ⟨rfl, rfl⟩

/-- What Checksum answers. -/
def checksum (s : ByteArray) : Int := if 2000 < s.size then -1 else 65535 - ones s
end Go.Proofs.Ythjdcgckonckoaa
