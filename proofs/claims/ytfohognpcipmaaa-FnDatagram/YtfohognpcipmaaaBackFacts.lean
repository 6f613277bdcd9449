/-
  Pure facts: what PutPacket, PutSeg and PutDatagram write is read back, field by field.
-/
import Derived.Test.YtfohognpcipmaaaDgramLaw
import Derived.Test.YtfohognpcipmaaaHopPkt
namespace Go.Proofs.Ytfohognpcipmaaa
open Go.ChangeShapes Go.WideShapes Go.ChangeAt Go.RowKit
set_option linter.unusedVariables false

theorem text_nil (a : ByteArray) : (⟨#[]⟩ : ByteArray) ++ a = a := by
  refine text_ext _ _ (by rw [ByteArray.size_append]; exact Nat.zero_add _) fun i hi => ?_
  have := byteAt_right ⟨#[]⟩ a i (by rw [ByteArray.size_append, show (⟨#[]⟩ : ByteArray).size = 0 from rfl] at hi; omega)
  rwa [show (⟨#[]⟩ : ByteArray).size + i = i from Nat.zero_add _] at this

theorem byteAt_mid (a b c : ByteArray) (k i : Nat) (hk : a.size = k) (h : i < b.size) : byteAt (a ++ b ++ c) (k + i) = byteAt b i := by
  subst hk
  rw [byteAt_left (a ++ b) c _ (by rw [ByteArray.size_append]; omega), byteAt_right a b i h]

theorem byteAt_two (n : Int) : byteAt (two n) 0 = n / 256 % 256 ∧ byteAt (two n) 1 = n % 256 := by
  unfold two
  rw [byteAt_nums _ 0 (by simp) (by simp; omega), byteAt_nums _ 1 (by simp) (by simp; omega)]
  exact ⟨rfl, rfl⟩

theorem byteAt_wordT (x : Int) (hx : IsWord x) : byteAt (wordT x) 0 = x / 16777216 ∧ byteAt (wordT x) 1 = x / 65536 % 256 ∧ byteAt (wordT x) 2 = x / 256 % 256 ∧ byteAt (wordT x) 3 = x % 256 := by
  obtain ⟨h0, h1⟩ := hx
  unfold wordT
  rw [byteAt_nums _ 0 (by simp) (by simp; omega), byteAt_nums _ 1 (by simp) (by simp; omega), byteAt_nums _ 2 (by simp) (by simp; omega), byteAt_nums _ 3 (by simp) (by simp; omega)]
  exact ⟨rfl, rfl, rfl, rfl⟩

theorem half_mid (a c : ByteArray) (n : Int) (hn : 0 ≤ n ∧ n ≤ 65535) (k : Nat) (hk : a.size = k) : halfAt (a ++ two n ++ c) k = n := by
  have h0 := byteAt_mid a (two n) c k 0 hk (by rw [two_size]; omega)
  have h1 := byteAt_mid a (two n) c k 1 hk (by rw [two_size]; omega)
  rw [Nat.add_zero] at h0
  rw [halfAt, h0, h1, (byteAt_two n).1, (byteAt_two n).2]
  omega

theorem bytes_mid (a c : ByteArray) (n : Int) (k : Nat) (hk : a.size = k) : byteAt (a ++ two n ++ c) k = n / 256 % 256 ∧ byteAt (a ++ two n ++ c) (k + 1) = n % 256 := by
  have h0 := byteAt_mid a (two n) c k 0 hk (by rw [two_size]; omega)
  have h1 := byteAt_mid a (two n) c k 1 hk (by rw [two_size]; omega)
  rw [Nat.add_zero] at h0
  exact ⟨h0.trans (byteAt_two n).1, h1.trans (byteAt_two n).2⟩

theorem word_mid (a c : ByteArray) (x : Int) (hx : IsWord x) (k : Nat) (hk : a.size = k) : wordAt (a ++ wordT x ++ c) k = x := by
  have h0 := byteAt_mid a (wordT x) c k 0 hk (by rw [wordT_size]; omega)
  have h1 := byteAt_mid a (wordT x) c k 1 hk (by rw [wordT_size]; omega)
  have h2 := byteAt_mid a (wordT x) c k 2 hk (by rw [wordT_size]; omega)
  have h3 := byteAt_mid a (wordT x) c k 3 hk (by rw [wordT_size]; omega)
  rw [Nat.add_zero] at h0
  obtain ⟨b0, b1, b2, b3⟩ := byteAt_wordT x hx
  obtain ⟨hx0, hx1⟩ := hx
  rw [wordAt, h0, h1, h2, h3, b0, b1, b2, b3]
  omega

theorem cut_right (a b : ByteArray) (k : Nat) (hk : a.size = k) : (a ++ b).extract k (a ++ b).size = b := by
  subst hk
  have hz : ((a ++ b).extract a.size (a ++ b).size).size = b.size := by
    rw [ByteArray.size_extract, ByteArray.size_append]
    omega
  refine text_ext _ _ hz fun i hi => ?_
  rw [hz] at hi
  rw [byteAt_extract _ _ _ _ (Nat.le_refl _) (by rw [ByteArray.size_append]; omega), byteAt_right a b i hi]

theorem put_reads (src dst id ttl proto : Int) (d : ByteArray) (hs : IsWord src) (hd : IsWord dst) (hok : pktOk id ttl proto d = true) :
    (putOf src dst id ttl proto d).size = 20 + d.size ∧ wordAt (putOf src dst id ttl proto d) 12 = src ∧ wordAt (putOf src dst id ttl proto d) 16 = dst ∧ halfAt (putOf src dst id ttl proto d) 4 = id ∧ byteAt (putOf src dst id ttl proto d) 8 = ttl ∧ byteAt (putOf src dst id ttl proto d) 9 = proto ∧ (putOf src dst id ttl proto d).extract 20 (putOf src dst id ttl proto d).size = d ∧ isPkt (putOf src dst id ttl proto d) := by
  have hok' := hok
  simp only [pktOk, Bool.and_eq_true, decide_eq_true_eq] at hok'
  obtain ⟨⟨i0, i1⟩, ⟨l0, l1⟩, ⟨p0, p1⟩, hz⟩ := hok'
  generalize hS : putOf src dst id ttl proto d = s
  have hS0 := hS
  rw [putOf, if_pos hok] at hS
  have hck := ck_range (aheadOf id ttl proto (d.size : Int) ++ two 0 ++ behindOf src dst) (by simp only [ByteArray.size_append, aheadOf_size, behindOf_size, two_size]; omega)
  generalize checksum (aheadOf id ttl proto (d.size : Int) ++ two 0 ++ behindOf src dst) = k at hS hck
  unfold aheadOf behindOf at hS
  have e4 : s = (two 17664 ++ two (20 + (d.size : Int))) ++ two id ++ (two 16384 ++ two (ttl * 256 + proto) ++ two k ++ (wordT src ++ wordT dst) ++ d) := by rw [← hS]; simp only [ByteArray.append_assoc]
  have e8 : s = (two 17664 ++ two (20 + (d.size : Int)) ++ two id ++ two 16384) ++ two (ttl * 256 + proto) ++ (two k ++ (wordT src ++ wordT dst) ++ d) := by rw [← hS]; simp only [ByteArray.append_assoc]
  have e12 : s = (two 17664 ++ two (20 + (d.size : Int)) ++ two id ++ two 16384 ++ two (ttl * 256 + proto) ++ two k) ++ wordT src ++ (wordT dst ++ d) := by rw [← hS]; simp only [ByteArray.append_assoc]
  have e16 : s = (two 17664 ++ two (20 + (d.size : Int)) ++ two id ++ two 16384 ++ two (ttl * 256 + proto) ++ two k ++ wordT src) ++ wordT dst ++ d := by rw [← hS]; simp only [ByteArray.append_assoc]
  have z20 : (two 17664 ++ two (20 + (d.size : Int)) ++ two id ++ two 16384 ++ two (ttl * 256 + proto) ++ two k ++ wordT src ++ wordT dst).size = 20 := by simp only [ByteArray.size_append, two_size, wordT_size]
  have r1 : s.size = 20 + d.size := by rw [e16, ByteArray.size_append, z20]
  have r2 : wordAt s 12 = src := by rw [e12]; exact word_mid _ _ src hs 12 (by simp only [ByteArray.size_append, two_size])
  have r3 : wordAt s 16 = dst := by rw [e16]; exact word_mid _ _ dst hd 16 (by simp only [ByteArray.size_append, two_size, wordT_size])
  have r4 : halfAt s 4 = id := by rw [e4]; exact half_mid _ _ id ⟨i0, i1⟩ 4 (by simp only [ByteArray.size_append, two_size])
  have r5 := bytes_mid (two 17664 ++ two (20 + (d.size : Int)) ++ two id ++ two 16384) (two k ++ (wordT src ++ wordT dst) ++ d) (ttl * 256 + proto) 8 (by simp only [ByteArray.size_append, two_size])
  rw [← e8] at r5
  have r6 : byteAt s 8 = ttl := by rw [r5.1]; omega
  have r7 : byteAt s 9 = proto := by rw [r5.2]; omega
  have r8 : s.extract 20 s.size = d := by rw [e16]; exact cut_right _ d 20 z20
  refine ⟨r1, r2, r3, r4, r6, r7, r8, (put_back s (by omega)).1 ?_⟩
  rw [putBack, r2, r3, r4, r6, r7, r8]
  exact hS0

theorem seg_reads (src dst fr to sq ak fl wn ms : Int) (d : ByteArray) (hsq : IsWord sq) (hak : IsWord ak) (hok : segOk fr to fl wn ms d = true) :
    20 ≤ (putSeg src dst fr to sq ak fl wn ms d).size ∧ (putSeg src dst fr to sq ak fl wn ms d).size ≤ 560 ∧ segRead (putSeg src dst fr to sq ak fl wn ms d) = segVal fr to sq ak fl wn ms d ∧ halfAt (putSeg src dst fr to sq ak fl wn ms d) 0 = fr ∧ halfAt (putSeg src dst fr to sq ak fl wn ms d) 2 = to ∧ isSeg src dst (putSeg src dst fr to sq ak fl wn ms d) := by
  have hok' := hok
  simp only [segOk, mssFits, Bool.and_eq_true, Bool.or_eq_true, decide_eq_true_eq] at hok'
  obtain ⟨⟨f0, f1⟩, ⟨o0, o1⟩, ⟨l0, l1⟩, ⟨n0, n1⟩, hm, hz⟩ := hok'
  generalize hS : putSeg src dst fr to sq ak fl wn ms d = s
  have hS0 := hS
  rw [putSeg, if_pos hok] at hS
  generalize segSum src dst (segAhead fr to sq ak fl wn (segForm ms)) (segBehind ms d) = k at hS
  unfold segAhead at hS
  have hb := segBehind_size ms d
  have hF : segForm ms = 20480 ∨ segForm ms = 24576 := by
    unfold segForm
    split
    · exact .inl rfl
    · exact .inr rfl
  have e0 : s = ⟨#[]⟩ ++ two fr ++ (two to ++ wordT sq ++ wordT ak ++ two (segForm ms + fl) ++ two wn ++ two k ++ segBehind ms d) := by rw [← hS, text_nil]; simp only [ByteArray.append_assoc]
  have e2 : s = two fr ++ two to ++ (wordT sq ++ wordT ak ++ two (segForm ms + fl) ++ two wn ++ two k ++ segBehind ms d) := by rw [← hS]; simp only [ByteArray.append_assoc]
  have e4 : s = (two fr ++ two to) ++ wordT sq ++ (wordT ak ++ two (segForm ms + fl) ++ two wn ++ two k ++ segBehind ms d) := by rw [← hS]; simp only [ByteArray.append_assoc]
  have e8 : s = (two fr ++ two to ++ wordT sq) ++ wordT ak ++ (two (segForm ms + fl) ++ two wn ++ two k ++ segBehind ms d) := by rw [← hS]; simp only [ByteArray.append_assoc]
  have e12 : s = (two fr ++ two to ++ wordT sq ++ wordT ak) ++ two (segForm ms + fl) ++ (two wn ++ two k ++ segBehind ms d) := by rw [← hS]; simp only [ByteArray.append_assoc]
  have e14 : s = (two fr ++ two to ++ wordT sq ++ wordT ak ++ two (segForm ms + fl)) ++ two wn ++ (two k ++ segBehind ms d) := by rw [← hS]; simp only [ByteArray.append_assoc]
  have e18 : s = (two fr ++ two to ++ wordT sq ++ wordT ak ++ two (segForm ms + fl) ++ two wn ++ two k) ++ two 0 ++ (segOpt ms ++ d) := by rw [← hS, segBehind]; simp only [ByteArray.append_assoc]
  have z20 : (two fr ++ two to ++ wordT sq ++ wordT ak ++ two (segForm ms + fl) ++ two wn ++ two k ++ two 0).size = 20 := by simp only [ByteArray.size_append, two_size, wordT_size]
  have r0 : halfAt s 0 = fr := by rw [e0]; exact half_mid _ _ fr ⟨by omega, by omega⟩ 0 rfl
  have r2 : halfAt s 2 = to := by rw [e2]; exact half_mid _ _ to ⟨by omega, by omega⟩ 2 (by simp only [two_size])
  have r4 : wordAt s 4 = sq := by rw [e4]; exact word_mid _ _ sq hsq 4 (by simp only [ByteArray.size_append, two_size])
  have r8 : wordAt s 8 = ak := by rw [e8]; exact word_mid _ _ ak hak 8 (by simp only [ByteArray.size_append, two_size, wordT_size])
  have r12 := bytes_mid (two fr ++ two to ++ wordT sq ++ wordT ak) (two wn ++ two k ++ segBehind ms d) (segForm ms + fl) 12 (by simp only [ByteArray.size_append, two_size, wordT_size])
  rw [← e12] at r12
  have r14 : halfAt s 14 = wn := by rw [e14]; exact half_mid _ _ wn ⟨n0, n1⟩ 14 (by simp only [ByteArray.size_append, two_size, wordT_size])
  have r13 : byteAt s 13 = fl := by rw [r12.2]; omega
  have rs : s.size = 20 + (segOpt ms ++ d).size := by rw [e18, ByteArray.size_append, z20]
  have ro := segOpt_size ms
  rw [ByteArray.size_append] at rs
  have hms : segMs s = ms ∧ segAt s ≤ s.size ∧ s.extract (segAt s) s.size = d := by
    by_cases h0 : ms = 0
    · have b12 : byteAt s 12 ≠ 96 := by
        rw [r12.1, segForm, if_pos h0]
        omega
      have hat : segAt s = 20 := by rw [segAt, if_neg b12]
      refine ⟨by rw [segMs, if_neg b12, h0], by omega, ?_⟩
      have e : s = (two fr ++ two to ++ wordT sq ++ wordT ak ++ two (segForm ms + fl) ++ two wn ++ two k ++ two 0) ++ d := by rw [e18, segOpt, if_pos h0, text_nil]
      rw [hat, e]
      exact cut_right _ d 20 z20
    · have b12 : byteAt s 12 = 96 := by
        rw [r12.1, segForm, if_neg h0]
        omega
      have hat : segAt s = 24 := by rw [segAt, if_pos b12]
      have e22 : s = (two fr ++ two to ++ wordT sq ++ wordT ak ++ two (segForm ms + fl) ++ two wn ++ two k ++ two 0 ++ two 516) ++ two ms ++ d := by rw [e18, segOpt, if_neg h0]; simp only [ByteArray.append_assoc]
      have z24 : (two fr ++ two to ++ wordT sq ++ wordT ak ++ two (segForm ms + fl) ++ two wn ++ two k ++ two 0 ++ two 516 ++ two ms).size = 24 := by simp only [ByteArray.size_append, two_size, wordT_size]
      have hs24 : s.size = 24 + d.size := by rw [e22, ByteArray.size_append, z24]
      refine ⟨?_, by omega, ?_⟩
      · rw [segMs, if_pos b12, e22]
        exact half_mid _ _ ms ⟨by omega, by omega⟩ 22 (by simp only [ByteArray.size_append, two_size, wordT_size])
      · rw [hat, e22]
        exact cut_right _ d 24 z24
  obtain ⟨r22, hat, rd⟩ := hms
  refine ⟨by omega, by omega, by rw [segRead, r0, r2, r4, r8, r13, r14, r22, rd], r0, r2, ⟨by omega, hat⟩, ?_⟩
  rw [segBack, r0, r2, r4, r8, r13, r14, r22, rd]
  exact hS0

theorem putSeg_full (src dst fr to sq ak fl wn ms : Int) (d : ByteArray) (h : (putSeg src dst fr to sq ak fl wn ms d).size ≠ 0) : segOk fr to fl wn ms d = true := by
  refine Classical.byContradiction fun hno => h ?_
  rw [putSeg, if_neg hno]
  rfl

theorem putOf_full (src dst id ttl proto : Int) (d : ByteArray) (h : (putOf src dst id ttl proto d).size ≠ 0) : pktOk id ttl proto d = true := by
  refine Classical.byContradiction fun hno => h ?_
  rw [putOf, if_neg hno]
  rfl

theorem dg_reads (sh sp dh dp id ttl sq ak fl wn ms : Int) (d : ByteArray) (hs : IsWord sh) (hd : IsWord dh) (hsq : IsWord sq) (hak : IsWord ak) (hok : segOk sp dp fl wn ms d = true) (hid : 0 ≤ id ∧ id ≤ 65535) (ht : 0 ≤ ttl ∧ ttl ≤ 255) :
    isDg (putOf sh dh id ttl 6 (putSeg sh dh sp dp sq ak fl wn ms d)) ∧ dgGood (putOf sh dh id ttl 6 (putSeg sh dh sp dp sq ak fl wn ms d)) = .tuple #[addrVal sh sp, addrVal dh dp, segVal sp dp sq ak fl wn ms d, .bool true] ∧
      byteAt (putOf sh dh id ttl 6 (putSeg sh dh sp dp sq ak fl wn ms d)) 8 = ttl ∧ hopText (putOf sh dh id ttl 6 (putSeg sh dh sp dp sq ak fl wn ms d)) = putOf sh dh id (ttl - 1) 6 (putSeg sh dh sp dp sq ak fl wn ms d) ∧ (putOf sh dh id ttl 6 (putSeg sh dh sp dp sq ak fl wn ms d)).size ≤ 580 := by
  obtain ⟨s1, s2, s3, s4, s5, s6⟩ := seg_reads sh dh sp dp sq ak fl wn ms d hsq hak hok
  generalize putSeg sh dh sp dp sq ak fl wn ms d = t at s1 s2 s3 s4 s5 s6 ⊢
  have hp : pktOk id ttl 6 t = true := by simp [pktOk, hid, ht]; omega
  obtain ⟨p1, p2, p3, p4, p5, p6, p7, p8⟩ := put_reads sh dh id ttl 6 t hs hd hp
  refine ⟨⟨p8, p6, ?_⟩, ?_, p5, ?_, by omega⟩
  · rw [p2, p3, p7]
    exact s6
  · rw [dgGood, p2, p3, p7, s3, s4, s5]
  · rw [hopText, p2, p3, p4, p5, p6, p7]
end Go.Proofs.Ytfohognpcipmaaa
