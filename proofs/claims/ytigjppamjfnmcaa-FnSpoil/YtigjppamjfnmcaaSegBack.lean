/-
  Pure facts: what PutSeg writes is read back, field by field (the first half of BackFacts, for a seat without packets).
-/
import Derived.Test.YtigjppamjfnmcaaPutBack
import Derived.Test.YtigjppamjfnmcaaGetSegI
namespace Go.Proofs.Ytigjppamjfnmcaa
open Go.ChangeShapes Go.WideShapes Go.ChangeAt Go.RowKit
set_option linter.unusedVariables false
set_option maxRecDepth 10000

theorem seg_reads (src dst fr to sq ak fl wn ms : Int) (d : ByteArray) (hsq : IsWord sq) (hak : IsWord ak) (hok : segOk fr to fl wn ms d = true) :
    20 ≤ (putSeg src dst fr to sq ak fl wn ms d).size ∧ (putSeg src dst fr to sq ak fl wn ms d).size ≤ 560 ∧ segRead (putSeg src dst fr to sq ak fl wn ms d) = segVal fr to sq ak fl wn ms d ∧ halfAt (putSeg src dst fr to sq ak fl wn ms d) 0 = fr ∧ halfAt (putSeg src dst fr to sq ak fl wn ms d) 2 = to ∧ isSeg src dst (putSeg src dst fr to sq ak fl wn ms d) := by
  have hok' := hok
  simp only [segOk, mssFits, Bool.and_eq_true, Bool.or_eq_true, decide_eq_true_eq] at hok'
  obtain ⟨⟨f0, f1⟩, ⟨o0, o1⟩, ⟨l0, l1⟩, ⟨n0, n1⟩, hm, hz⟩ := hok'
  generalize hS : putSeg src dst fr to sq ak fl wn ms d = s
  have hS0 := hS
  rw [putSeg, if_pos hok] at hS
  generalize segSum src dst (segAhead fr to sq ak fl wn (segForm ms)) (segBehind ms d) = k at hS
  unfold segAhead at hS
  have hb := segBehind_size ms d
  have hF : segForm ms = 20480 ∨ segForm ms = 24576 := by
    unfold segForm
    split
    · exact .inl rfl
    · exact .inr rfl
  have e0 : s = ⟨#[]⟩ ++ two fr ++ (two to ++ wordT sq ++ wordT ak ++ two (segForm ms + fl) ++ two wn ++ two k ++ segBehind ms d) := by rw [← hS, text_nil]; simp only [ByteArray.append_assoc]
  have e2 : s = two fr ++ two to ++ (wordT sq ++ wordT ak ++ two (segForm ms + fl) ++ two wn ++ two k ++ segBehind ms d) := by rw [← hS]; simp only [ByteArray.append_assoc]
  have e4 : s = (two fr ++ two to) ++ wordT sq ++ (wordT ak ++ two (segForm ms + fl) ++ two wn ++ two k ++ segBehind ms d) := by rw [← hS]; simp only [ByteArray.append_assoc]
  have e8 : s = (two fr ++ two to ++ wordT sq) ++ wordT ak ++ (two (segForm ms + fl) ++ two wn ++ two k ++ segBehind ms d) := by rw [← hS]; simp only [ByteArray.append_assoc]
  have e12 : s = (two fr ++ two to ++ wordT sq ++ wordT ak) ++ two (segForm ms + fl) ++ (two wn ++ two k ++ segBehind ms d) := by rw [← hS]; simp only [ByteArray.append_assoc]
  have e14 : s = (two fr ++ two to ++ wordT sq ++ wordT ak ++ two (segForm ms + fl)) ++ two wn ++ (two k ++ segBehind ms d) := by rw [← hS]; simp only [ByteArray.append_assoc]
  have e18 : s = (two fr ++ two to ++ wordT sq ++ wordT ak ++ two (segForm ms + fl) ++ two wn ++ two k) ++ two 0 ++ (segOpt ms ++ d) := by rw [← hS, segBehind]; simp only [ByteArray.append_assoc]
  have z20 : (two fr ++ two to ++ wordT sq ++ wordT ak ++ two (segForm ms + fl) ++ two wn ++ two k ++ two 0).size = 20 := by simp only [ByteArray.size_append, two_size, wordT_size]
  have r0 : halfAt s 0 = fr := by rw [e0]; exact half_mid _ _ fr ⟨by omega, by omega⟩ 0 rfl
  have r2 : halfAt s 2 = to := by rw [e2]; exact half_mid _ _ to ⟨by omega, by omega⟩ 2 (by simp only [two_size])
  have r4 : wordAt s 4 = sq := by rw [e4]; exact word_mid _ _ sq hsq 4 (by simp only [ByteArray.size_append, two_size])
  have r8 : wordAt s 8 = ak := by rw [e8]; exact word_mid _ _ ak hak 8 (by simp only [ByteArray.size_append, two_size, wordT_size])
  have r12 := bytes_mid (two fr ++ two to ++ wordT sq ++ wordT ak) (two wn ++ two k ++ segBehind ms d) (segForm ms + fl) 12 (by simp only [ByteArray.size_append, two_size, wordT_size])
  rw [← e12] at r12
  have r14 : halfAt s 14 = wn := by rw [e14]; exact half_mid _ _ wn ⟨n0, n1⟩ 14 (by simp only [ByteArray.size_append, two_size, wordT_size])
  have r13 : byteAt s 13 = fl := by rw [r12.2]; omega
  have rs : s.size = 20 + (segOpt ms ++ d).size := by rw [e18, ByteArray.size_append, z20]
  have ro := segOpt_size ms
  rw [ByteArray.size_append] at rs
  have hms : segMs s = ms ∧ segAt s ≤ s.size ∧ s.extract (segAt s) s.size = d := by
    by_cases h0 : ms = 0
    · have b12 : byteAt s 12 ≠ 96 := by
        rw [r12.1, segForm, if_pos h0]
        omega
      have hat : segAt s = 20 := by rw [segAt, if_neg b12]
      refine ⟨by rw [segMs, if_neg b12, h0], by omega, ?_⟩
      have e : s = (two fr ++ two to ++ wordT sq ++ wordT ak ++ two (segForm ms + fl) ++ two wn ++ two k ++ two 0) ++ d := by rw [e18, segOpt, if_pos h0, text_nil]
      rw [hat, e]
      exact cut_right _ d 20 z20
    · have b12 : byteAt s 12 = 96 := by
        rw [r12.1, segForm, if_neg h0]
        omega
      have hat : segAt s = 24 := by rw [segAt, if_pos b12]
      have e22 : s = (two fr ++ two to ++ wordT sq ++ wordT ak ++ two (segForm ms + fl) ++ two wn ++ two k ++ two 0 ++ two 516) ++ two ms ++ d := by rw [e18, segOpt, if_neg h0]; simp only [ByteArray.append_assoc]
      have z24 : (two fr ++ two to ++ wordT sq ++ wordT ak ++ two (segForm ms + fl) ++ two wn ++ two k ++ two 0 ++ two 516 ++ two ms).size = 24 := by simp only [ByteArray.size_append, two_size, wordT_size]
      have hs24 : s.size = 24 + d.size := by rw [e22, ByteArray.size_append, z24]
      refine ⟨?_, by omega, ?_⟩
      · rw [segMs, if_pos b12, e22]
        exact half_mid _ _ ms ⟨by omega, by omega⟩ 22 (by simp only [ByteArray.size_append, two_size, wordT_size])
      · rw [hat, e22]
        exact cut_right _ d 24 z24
  obtain ⟨r22, hat, rd⟩ := hms
  refine ⟨by omega, by omega, by rw [segRead, r0, r2, r4, r8, r13, r14, r22, rd], r0, r2, ⟨by omega, hat⟩, ?_⟩
  rw [segBack, r0, r2, r4, r8, r13, r14, r22, rd]
  exact hS0

theorem putSeg_full (src dst fr to sq ak fl wn ms : Int) (d : ByteArray) (h : (putSeg src dst fr to sq ak fl wn ms d).size ≠ 0) : segOk fr to fl wn ms d = true := by
  refine Classical.byContradiction fun hno => h ?_
  rw [putSeg, if_neg hno]
  rfl
end Go.Proofs.Ytigjppamjfnmcaa
