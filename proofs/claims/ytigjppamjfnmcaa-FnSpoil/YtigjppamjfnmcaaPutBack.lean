/-
  Pure facts: what PutPacket writes is read back, field by field.
-/
import Derived.Test.YtigjppamjfnmcaaSumFacts
import Derived.Test.YtigjppamjfnmcaaPktFacts
namespace Go.Proofs.Ytigjppamjfnmcaa
open Go.ChangeShapes Go.WideShapes Go.ChangeAt Go.RowKit
set_option linter.unusedVariables false
set_option maxRecDepth 10000

theorem text_nil (a : ByteArray) : (⟨#[]⟩ : ByteArray) ++ a = a := by
  refine text_ext _ _ (by rw [ByteArray.size_append]; exact Nat.zero_add _) fun i hi => ?_
  have := byteAt_append_right ⟨#[]⟩ a i (by rw [ByteArray.size_append, show (⟨#[]⟩ : ByteArray).size = 0 from rfl] at hi; omega)
  rwa [show (⟨#[]⟩ : ByteArray).size + i = i from Nat.zero_add _] at this

theorem byteAt_mid (a b c : ByteArray) (k i : Nat) (hk : a.size = k) (h : i < b.size) : byteAt (a ++ b ++ c) (k + i) = byteAt b i := by
  subst hk
  rw [byteAt_append_left (a ++ b) c _ (by rw [ByteArray.size_append]; omega), byteAt_append_right a b i h]

theorem byteAt_two (n : Int) : byteAt (two n) 0 = n / 256 % 256 ∧ byteAt (two n) 1 = n % 256 := by
  unfold two
  rw [byteAt_nums _ 0 (by simp) (by simp; omega), byteAt_nums _ 1 (by simp) (by simp; omega)]
  exact ⟨rfl, rfl⟩

theorem byteAt_wordT (x : Int) (hx : IsWord x) : byteAt (wordT x) 0 = x / 16777216 ∧ byteAt (wordT x) 1 = x / 65536 % 256 ∧ byteAt (wordT x) 2 = x / 256 % 256 ∧ byteAt (wordT x) 3 = x % 256 := by
  obtain ⟨h0, h1⟩ := hx
  unfold wordT
  rw [byteAt_nums _ 0 (by simp) (by simp; omega), byteAt_nums _ 1 (by simp) (by simp; omega), byteAt_nums _ 2 (by simp) (by simp; omega), byteAt_nums _ 3 (by simp) (by simp; omega)]
  exact ⟨rfl, rfl, rfl, rfl⟩

theorem half_mid (a c : ByteArray) (n : Int) (hn : 0 ≤ n ∧ n ≤ 65535) (k : Nat) (hk : a.size = k) : halfAt (a ++ two n ++ c) k = n := by
  have h0 := byteAt_mid a (two n) c k 0 hk (by rw [two_size]; omega)
  have h1 := byteAt_mid a (two n) c k 1 hk (by rw [two_size]; omega)
  rw [Nat.add_zero] at h0
  rw [halfAt, h0, h1, (byteAt_two n).1, (byteAt_two n).2]
  omega

theorem bytes_mid (a c : ByteArray) (n : Int) (k : Nat) (hk : a.size = k) : byteAt (a ++ two n ++ c) k = n / 256 % 256 ∧ byteAt (a ++ two n ++ c) (k + 1) = n % 256 := by
  have h0 := byteAt_mid a (two n) c k 0 hk (by rw [two_size]; omega)
  have h1 := byteAt_mid a (two n) c k 1 hk (by rw [two_size]; omega)
  rw [Nat.add_zero] at h0
  exact ⟨h0.trans (byteAt_two n).1, h1.trans (byteAt_two n).2⟩

theorem word_mid (a c : ByteArray) (x : Int) (hx : IsWord x) (k : Nat) (hk : a.size = k) : wordAt (a ++ wordT x ++ c) k = x := by
  have h0 := byteAt_mid a (wordT x) c k 0 hk (by rw [wordT_size]; omega)
  have h1 := byteAt_mid a (wordT x) c k 1 hk (by rw [wordT_size]; omega)
  have h2 := byteAt_mid a (wordT x) c k 2 hk (by rw [wordT_size]; omega)
  have h3 := byteAt_mid a (wordT x) c k 3 hk (by rw [wordT_size]; omega)
  rw [Nat.add_zero] at h0
  obtain ⟨b0, b1, b2, b3⟩ := byteAt_wordT x hx
  obtain ⟨hx0, hx1⟩ := hx
  rw [wordAt, h0, h1, h2, h3, b0, b1, b2, b3]
  omega

theorem cut_right (a b : ByteArray) (k : Nat) (hk : a.size = k) : (a ++ b).extract k (a ++ b).size = b := by
  subst hk
  have hz : ((a ++ b).extract a.size (a ++ b).size).size = b.size := by
    rw [ByteArray.size_extract, ByteArray.size_append]
    omega
  refine text_ext _ _ hz fun i hi => ?_
  rw [hz] at hi
  rw [byteAt_extract _ _ _ _ (Nat.le_refl _) (by rw [ByteArray.size_append]; omega), byteAt_append_right a b i hi]

theorem put_reads (src dst id ttl proto : Int) (d : ByteArray) (hs : IsWord src) (hd : IsWord dst) (hok : pktOk id ttl proto d = true) :
    (putOf src dst id ttl proto d).size = 20 + d.size ∧ wordAt (putOf src dst id ttl proto d) 12 = src ∧ wordAt (putOf src dst id ttl proto d) 16 = dst ∧ halfAt (putOf src dst id ttl proto d) 4 = id ∧ byteAt (putOf src dst id ttl proto d) 8 = ttl ∧ byteAt (putOf src dst id ttl proto d) 9 = proto ∧ (putOf src dst id ttl proto d).extract 20 (putOf src dst id ttl proto d).size = d ∧ isPkt (putOf src dst id ttl proto d) := by
  have hok' := hok
  simp only [pktOk, Bool.and_eq_true, decide_eq_true_eq] at hok'
  obtain ⟨⟨i0, i1⟩, ⟨l0, l1⟩, ⟨p0, p1⟩, hz⟩ := hok'
  generalize hS : putOf src dst id ttl proto d = s
  have hS0 := hS
  rw [putOf, if_pos hok] at hS
  have hck := ck_range (aheadOf id ttl proto (d.size : Int) ++ two 0 ++ behindOf src dst) (by simp only [ByteArray.size_append, aheadOf_size, behindOf_size, two_size]; omega)
  generalize checksum (aheadOf id ttl proto (d.size : Int) ++ two 0 ++ behindOf src dst) = k at hS hck
  unfold aheadOf behindOf at hS
  have e4 : s = (two 17664 ++ two (20 + (d.size : Int))) ++ two id ++ (two 16384 ++ two (ttl * 256 + proto) ++ two k ++ (wordT src ++ wordT dst) ++ d) := by rw [← hS]; simp only [ByteArray.append_assoc]
  have e8 : s = (two 17664 ++ two (20 + (d.size : Int)) ++ two id ++ two 16384) ++ two (ttl * 256 + proto) ++ (two k ++ (wordT src ++ wordT dst) ++ d) := by rw [← hS]; simp only [ByteArray.append_assoc]
  have e12 : s = (two 17664 ++ two (20 + (d.size : Int)) ++ two id ++ two 16384 ++ two (ttl * 256 + proto) ++ two k) ++ wordT src ++ (wordT dst ++ d) := by rw [← hS]; simp only [ByteArray.append_assoc]
  have e16 : s = (two 17664 ++ two (20 + (d.size : Int)) ++ two id ++ two 16384 ++ two (ttl * 256 + proto) ++ two k ++ wordT src) ++ wordT dst ++ d := by rw [← hS]; simp only [ByteArray.append_assoc]
  have z20 : (two 17664 ++ two (20 + (d.size : Int)) ++ two id ++ two 16384 ++ two (ttl * 256 + proto) ++ two k ++ wordT src ++ wordT dst).size = 20 := by simp only [ByteArray.size_append, two_size, wordT_size]
  have r1 : s.size = 20 + d.size := by rw [e16, ByteArray.size_append, z20]
  have r2 : wordAt s 12 = src := by rw [e12]; exact word_mid _ _ src hs 12 (by simp only [ByteArray.size_append, two_size])
  have r3 : wordAt s 16 = dst := by rw [e16]; exact word_mid _ _ dst hd 16 (by simp only [ByteArray.size_append, two_size, wordT_size])
  have r4 : halfAt s 4 = id := by rw [e4]; exact half_mid _ _ id ⟨i0, i1⟩ 4 (by simp only [ByteArray.size_append, two_size])
  have r5 := bytes_mid (two 17664 ++ two (20 + (d.size : Int)) ++ two id ++ two 16384) (two k ++ (wordT src ++ wordT dst) ++ d) (ttl * 256 + proto) 8 (by simp only [ByteArray.size_append, two_size])
  rw [← e8] at r5
  have r6 : byteAt s 8 = ttl := by rw [r5.1]; omega
  have r7 : byteAt s 9 = proto := by rw [r5.2]; omega
  have r8 : s.extract 20 s.size = d := by rw [e16]; exact cut_right _ d 20 z20
  refine ⟨r1, r2, r3, r4, r6, r7, r8, (put_back s (by omega)).1 ?_⟩
  rw [putBack, r2, r3, r4, r6, r7, r8]
  exact hS0

theorem putOf_full (src dst id ttl proto : Int) (d : ByteArray) (h : (putOf src dst id ttl proto d).size ≠ 0) : pktOk id ttl proto d = true := by
  refine Classical.byContradiction fun hno => h ?_
  rw [putOf, if_neg hno]
  rfl
end Go.Proofs.Ytigjppamjfnmcaa
