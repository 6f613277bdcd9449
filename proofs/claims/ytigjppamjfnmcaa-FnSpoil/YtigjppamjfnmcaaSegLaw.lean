/-
  GetSeg of both, as one answer; a segment held against itself.
-/
import Derived.Test.YtigjppamjfnmcaaGetSegI
import Derived.Test.YtigjppamjfnmcaaSpecPutSeg
import Derived.Test.YtigjppamjfnmcaaM4
import Derived.OwnWalk
namespace Go.Proofs.Ytigjppamjfnmcaa
open Go.ChangeShapes Go.WideShapes Go.ChangeAt Go.RowKit
set_option linter.unusedVariables false
set_option maxRecDepth 10000

theorem byteAt_left (a b : ByteArray) (i : Nat) (h : i < a.size) : byteAt (a ++ b) i = byteAt a i := by
  rw [byteAt_in _ i (by rw [ByteArray.size_append]; omega), byteAt_in a i h, ByteArray.getElem_append_left h]

theorem byteAt_right (a b : ByteArray) (i : Nat) (h : i < b.size) : byteAt (a ++ b) (a.size + i) = byteAt b i := by
  rw [byteAt_in _ _ (by rw [ByteArray.size_append]; omega), byteAt_in b i h, ByteArray.getElem_append_right (by omega)]
  simp

theorem form_byte (fr to sq ak fl wn form : Int) : byteAt (segAhead fr to sq ak fl wn form) 12 = (form + fl) / 256 % 256 := by
  unfold segAhead
  rw [byteAt_left _ (two wn) 12 (by simp only [ByteArray.size_append, two_size, wordT_size]; omega)]
  have hz : (two fr ++ two to ++ wordT sq ++ wordT ak).size = 12 := by simp only [ByteArray.size_append, two_size, wordT_size]
  have := byteAt_right (two fr ++ two to ++ wordT sq ++ wordT ak) (two (form + fl)) 0 (by rw [two_size]; omega)
  rw [hz] at this
  rw [this, two, byteAt_nums _ 0 (by simp) (by simp; omega)]
  rfl

theorem plain_byte (src dst fr to sq ak fl wn : Int) (d s : ByteArray) (h : putSeg src dst fr to sq ak fl wn 0 d = s) (hs : 20 ≤ s.size) : byteAt s 12 = 80 := by
  by_cases hok : segOk fr to fl wn 0 d = true
  · rw [putSeg, if_pos hok] at h
    simp only [segOk, Bool.and_eq_true, decide_eq_true_eq] at hok
    obtain ⟨_, _, ⟨l0, l1⟩, _⟩ := hok
    have hz := segAhead_size fr to sq ak fl wn (segForm 0)
    rw [← h, ByteArray.append_assoc, byteAt_left _ _ 12 (by omega), form_byte, show segForm 0 = 20480 from rfl]
    omega
  · rw [putSeg, if_neg hok] at h
    subst h
    exact absurd hs (by decide)

theorem seg_dec (src dst : Int) (s : ByteArray) : ∃ ok : Bool, isSeg src dst s ↔ ok = true := by
  by_cases h : isSeg src dst s
  · exact ⟨true, by simp [h]⟩
  · exact ⟨false, by simp [h]⟩

theorem getSegVal_form (ok : Bool) (s : ByteArray) : ∃ a b c d e f g h, getSegVal ok s = .tuple #[.agg #[.int .i64 a, .int .i64 b, .int .u32 c, .int .u32 d, .int .i64 e, .int .i64 f, .int .i64 g, .string h], .bool ok] := by
  cases ok
  · exact ⟨_, _, _, _, _, _, _, _, rfl⟩
  · exact ⟨_, _, _, _, _, _, _, _, rfl⟩
end Go.Proofs.Ytigjppamjfnmcaa
