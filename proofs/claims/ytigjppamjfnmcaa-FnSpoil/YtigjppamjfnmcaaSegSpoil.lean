/-
  Pure facts: the halves of a segment and of its pseudo header sum to all ones; so one with a half turned is none, where the turn shows.
-/
import Derived.Test.YtigjppamjfnmcaaSumFacts
import Derived.Test.YtigjppamjfnmcaaSegBack
namespace Go.Proofs.Ytigjppamjfnmcaa
open Go.ChangeShapes Go.WideShapes Go.ChangeAt Go.RowKit
set_option linter.unusedVariables false
set_option maxRecDepth 10000

theorem byteAt_none (s : ByteArray) (i : Nat) (h : s.size ≤ i) : byteAt s i = 0 := by
  rw [byteAt, dif_neg (by omega)]

theorem bytes_beside (A B : ByteArray) (n m : Int) (i : Nat) (h1 : i ≠ A.size) (h2 : i ≠ A.size + 1) : byteAt (A ++ two n ++ B) i = byteAt (A ++ two m ++ B) i := by
  have zn := two_size n
  have zm := two_size m
  by_cases hl : i < A.size
  · rw [byteAt_append_left _ _ i (by rw [ByteArray.size_append]; omega), byteAt_append_left _ _ i hl, byteAt_append_left _ _ i (by rw [ByteArray.size_append]; omega), byteAt_append_left _ _ i hl]
  · obtain ⟨j, rfl⟩ : ∃ j, i = A.size + 2 + j := ⟨i - (A.size + 2), by omega⟩
    by_cases hj : j < B.size
    · have e1 := byteAt_append_right (A ++ two n) B j hj
      have e2 := byteAt_append_right (A ++ two m) B j hj
      rw [ByteArray.size_append, zn] at e1
      rw [ByteArray.size_append, zm] at e2
      rw [e1, e2]
    · rw [byteAt_none _ _ (by simp only [ByteArray.size_append]; omega), byteAt_none _ _ (by simp only [ByteArray.size_append]; omega)]

theorem part_own (A B : ByteArray) (n : Int) (hA : A.size = 16) (h0 : 0 ≤ n) (h1 : n ≤ 65535) : part (byteAt (A ++ two n ++ B)) (18 + B.size) = part (byteAt (A ++ two 0 ++ B)) (18 + B.size) + n := by
  have e := part_turn (byteAt (A ++ two 0 ++ B)) (byteAt (A ++ two n ++ B)) 8 B.size (fun i h1 h2 => bytes_beside A B n 0 i (by omega) (by omega))
  have b0 := bytes_mid A B n 16 hA
  have b1 := bytes_mid A B 0 16 hA
  simp only [show 2 * 8 + 2 + B.size = 18 + B.size from rfl, show 2 * 8 = 16 from rfl, show 16 + 1 = 17 from rfl] at e b0 b1
  rw [b0.1, b0.2, b1.1, b1.2] at e
  rw [e]
  omega

theorem seg_sum (src dst : Int) (s : ByteArray) (h : isSeg src dst s) (hz : s.size ≤ 1000) : (pseudoOf src dst 6 (s.size : Int) + part (byteAt s) s.size) % 65535 = 0 := by
  obtain ⟨⟨h20, hat⟩, hb⟩ := h
  unfold segBack at hb
  have hok := putSeg_full src dst _ _ _ _ _ _ _ _ (by rw [hb]; omega)
  rw [putSeg, if_pos hok] at hb
  have hA := segAhead_size (halfAt s 0) (halfAt s 2) (wordAt s 4) (wordAt s 8) (byteAt s 13) (halfAt s 14) (segForm (segMs s))
  have hr := segSum_range src dst (segAhead (halfAt s 0) (halfAt s 2) (wordAt s 4) (wordAt s 8) (byteAt s 13) (halfAt s 14) (segForm (segMs s))) (segBehind (segMs s) (s.extract (segAt s) s.size)) (by have := congrArg ByteArray.size hb; simp only [ByteArray.size_append, two_size] at this; omega)
  generalize segAhead (halfAt s 0) (halfAt s 2) (wordAt s 4) (wordAt s 8) (byteAt s 13) (halfAt s 14) (segForm (segMs s)) = A at hb hA hr
  generalize segBehind (segMs s) (s.extract (segAt s) s.size) = B at hb hr
  have hs : s.size = 18 + B.size := by
    have := congrArg ByteArray.size hb
    simp only [ByteArray.size_append, two_size] at this
    omega
  have hX : (A ++ two 0 ++ B).size = 18 + B.size := by
    simp only [ByteArray.size_append, two_size]
    omega
  have e := part_own A B (segSum src dst A B) hA hr.1 hr.2
  rw [hb] at e
  have hp := part_range (byteAt (A ++ two 0 ++ B)) (byteAt_range _) (18 + B.size)
  have hon := ones_small (A ++ two 0 ++ B) (by omega)
  rw [hX] at hon
  have hP := pseudo_range src dst ((18 + B.size : Nat) : Int) (by omega) (by omega)
  have hk : segSum src dst A B = 65535 - foldOf (pseudoOf src dst 6 ((18 + B.size : Nat) : Int) + foldOf (part (byteAt (A ++ two 0 ++ B)) (18 + B.size))) := by rw [segSum, hX, hon]
  have f1 := foldOf_mod (part (byteAt (A ++ two 0 ++ B)) (18 + B.size)) hp.1
  have r1 := foldOf_range (part (byteAt (A ++ two 0 ++ B)) (18 + B.size)) hp.1
  have f2 := foldOf_mod (pseudoOf src dst 6 ((18 + B.size : Nat) : Int) + foldOf (part (byteAt (A ++ two 0 ++ B)) (18 + B.size))) (by omega)
  rw [hs, e, hk]
  generalize foldOf (pseudoOf src dst 6 ((18 + B.size : Nat) : Int) + foldOf (part (byteAt (A ++ two 0 ++ B)) (18 + B.size))) = q at f2
  generalize foldOf (part (byteAt (A ++ two 0 ++ B)) (18 + B.size)) = p at f1 f2
  omega

theorem seg_turned_not (src dst : Int) (s : ByteArray) (k x : Int) (h : isSeg src dst s) (hz : s.size ≤ 1000) (hsh : shows s k x = true) : ¬ isSeg src dst (turnOf s k x) := by
  intro h'
  have e1 := seg_sum src dst s h hz
  have e2 := seg_sum src dst _ h' (by rw [turnOf_size]; exact hz)
  rw [shows_sums s k x (by omega), ones_small s (by omega), ones_small (turnOf s k x) (by rw [turnOf_size]; omega)] at hsh
  rw [turnOf_size] at e2 hsh
  have p1 := part_range (byteAt s) (byteAt_range _) s.size
  have p2 := part_range (byteAt (turnOf s k x)) (byteAt_range _) s.size
  have m1 := foldOf_mod _ p1.1
  have m2 := foldOf_mod _ p2.1
  have r1 := foldOf_range _ p1.1
  have r2 := foldOf_range _ p2.1
  generalize foldOf (part (byteAt s) s.size) = o1 at *
  generalize foldOf (part (byteAt (turnOf s k x)) s.size) = o2 at *
  simp only [bne_iff_ne] at hsh
  omega
end Go.Proofs.Ytigjppamjfnmcaa
