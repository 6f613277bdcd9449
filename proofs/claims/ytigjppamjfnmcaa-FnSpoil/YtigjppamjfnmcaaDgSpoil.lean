/-
  A datagram with a half turned is none.
-/
import Derived.Test.YtigjppamjfnmcaaBackFacts
import Derived.Test.YtigjppamjfnmcaaSpoilFacts
import Derived.Test.YtigjppamjfnmcaaSegSpoil
namespace Go.Proofs.Ytigjppamjfnmcaa
open Go.ChangeShapes Go.WideShapes Go.ChangeAt Go.RowKit
set_option linter.unusedVariables false
set_option maxRecDepth 10000

theorem shows_turn (s : ByteArray) (k : Nat) (x : Int) (hk : 2 * k + 1 < s.size) (hz : s.size ≤ 2000) (hx : 1 ≤ x ∧ x ≤ 65534) : shows s (k : Int) x = true := by
  have hp := part_turned s k x hk (by omega)
  have ht := turned_half s k x hk (by omega) (by omega)
  have p1 := part_range (byteAt s) (byteAt_range _) s.size
  have p2 := part_range (byteAt (turnOf s (k : Int) x)) (byteAt_range _) s.size
  have m1 := foldOf_mod _ p1.1
  have m2 := foldOf_mod _ p2.1
  have r1 := foldOf_range _ p1.1
  have r2 := foldOf_range _ p2.1
  rw [shows_sums s _ x hz, ones_small s hz, ones_small _ (by rw [turnOf_size]; exact hz), turnOf_size, bne_iff_ne]
  generalize part (byteAt s) s.size = a at *
  generalize part (byteAt (turnOf s (k : Int) x)) s.size = b at *
  generalize foldOf a = fa at *
  generalize foldOf b = fb at *
  omega

theorem byteAt_turn_other (s : ByteArray) (k : Nat) (x : Int) (hk : 2 * k + 1 < s.size) (hx : 1 ≤ x ∧ x ≤ 65535) (i : Nat) (hi : i < 2 * k) : byteAt (turnOf s (k : Int) x) i = byteAt s i := by
  rw [byteAt_turn s k x hk hx i (by omega), turnF, if_neg (by omega), if_neg (by omega)]

theorem turn_behind (s : ByteArray) (k : Nat) (x : Int) (hk : 2 * k + 1 < s.size) (h10 : 10 ≤ k) (hx : 1 ≤ x ∧ x ≤ 65535) : (turnOf s (k : Int) x).extract 20 (turnOf s (k : Int) x).size = turnOf (s.extract 20 s.size) ((k - 10 : Nat) : Int) x := by
  have hz : (s.extract 20 s.size).size = s.size - 20 := by rw [ByteArray.size_extract]; omega
  refine text_ext _ _ ?_ fun i hi => ?_
  · rw [ByteArray.size_extract, turnOf_size, turnOf_size, hz]
    omega
  · rw [ByteArray.size_extract, turnOf_size] at hi
    rw [byteAt_extract _ _ _ _ (Nat.le_refl _) (by rw [turnOf_size]; omega), byteAt_turn s k x hk hx (20 + i) (by omega), byteAt_turn _ (k - 10) x (by rw [hz]; omega) hx i (by rw [hz]; omega)]
    unfold turnF
    have e : byteAt (s.extract 20 s.size) i = byteAt s (20 + i) := byteAt_extract _ _ _ _ (Nat.le_refl _) (by omega)
    rw [e]
    by_cases h1 : i = 2 * (k - 10) + 1
    · rw [if_pos h1, if_pos (by omega)]
    · rw [if_neg h1, if_neg (by omega)]
      by_cases h2 : i = 2 * (k - 10)
      · rw [if_pos h2, if_pos (by omega)]
      · rw [if_neg h2, if_neg (by omega)]

theorem dg_turned_not (s : ByteArray) (h : isDg s) (hz : s.size ≤ 1000) (k : Nat) (hk : 2 * k + 1 < s.size) (x : Int) (hx : 1 ≤ x ∧ x ≤ 65534) : ¬ isDg (turnOf s (k : Int) x) := by
  intro h'
  by_cases h10 : k < 10
  · exact turned_not s h.1 k h10 x hx h'.1
  · have hw : ∀ j, j + 3 < 20 → wordAt (turnOf s (k : Int) x) j = wordAt s j := fun j hj => by
      unfold wordAt
      rw [byteAt_turn_other s k x hk (by omega) j (by omega), byteAt_turn_other s k x hk (by omega) (j + 1) (by omega), byteAt_turn_other s k x hk (by omega) (j + 2) (by omega), byteAt_turn_other s k x hk (by omega) (j + 3) (by omega)]
    have h3 := h'.2.2
    rw [hw 12 (by omega), hw 16 (by omega), turn_behind s k x hk (by omega) (by omega)] at h3
    have hz2 : (s.extract 20 s.size).size = s.size - 20 := by rw [ByteArray.size_extract]; omega
    exact seg_turned_not _ _ _ _ _ h.2.2 (by omega) (shows_turn _ (k - 10) x (by omega) (by omega) hx) h3
end Go.Proofs.Ytigjppamjfnmcaa
