/-
  What a packet's bytes tell, without the program: a text is the bytes of the packet that its fields tell just when its header is right.
-/
import Derived.Test.YtigjppamjfnmcaaPutPkt
import Derived.Test.YtigjppamjfnmcaaPktDefs
import Derived.Test.YtigjppamjfnmcaaTurn
namespace Go.Proofs.Ytigjppamjfnmcaa
open Go.ChangeShapes Go.WideShapes Go.ChangeAt Go.RowKit
set_option linter.unusedVariables false
set_option maxRecDepth 10000

theorem byteAt_nums (xs : List Int) (i : Nat) (h : i < xs.length) (hr : 0 ≤ xs[i] ∧ xs[i] < 256) : byteAt (strOfNums xs) i = xs[i] := by
  rw [byteAt_in _ _ (by rw [strOfNums_size]; exact h)]
  have e : (strOfNums xs)[i]'(by rw [strOfNums_size]; exact h) = UInt8.ofNat (xs[i]).toNat := by
    show (strOfNums xs).data[i]'_ = _
    simp [strOfNums]
  rw [e, UInt8.toNat_ofNat']
  omega

theorem byteAt_extract (s : ByteArray) (a b i : Nat) (hb : b ≤ s.size) (hi : a + i < b) : byteAt (s.extract a b) i = byteAt s (a + i) := by
  rw [byteAt_in s (a + i) (by omega), byteAt_in (s.extract a b) i (by rw [ByteArray.size_extract]; omega), ByteArray.getElem_extract]

theorem two_half (s : ByteArray) (i : Nat) (h : i + 2 ≤ s.size) : two (halfAt s i) = s.extract i (i + 2) := by
  have r0 := byteAt_range s i
  have r1 := byteAt_range s (i + 1)
  refine text_ext _ _ (by rw [two_size, ByteArray.size_extract]; omega) fun k hk => ?_
  rw [two_size] at hk
  rw [byteAt_extract s i (i + 2) k h (by omega)]
  have e0 : halfAt s i / 256 % 256 = byteAt s i := by unfold halfAt; omega
  have e1 : halfAt s i % 256 = byteAt s (i + 1) := by unfold halfAt; omega
  unfold two
  rw [e0, e1]
  match k, hk with
  | 0, _ => exact byteAt_nums [byteAt s i, byteAt s (i + 1)] 0 (by simp) r0
  | 1, _ => exact byteAt_nums [byteAt s i, byteAt s (i + 1)] 1 (by simp) r1

theorem word_word (s : ByteArray) (i : Nat) (h : i + 4 ≤ s.size) : wordT (wordAt s i) = s.extract i (i + 4) := by
  have r0 := byteAt_range s i
  have r1 := byteAt_range s (i + 1)
  have r2 := byteAt_range s (i + 2)
  have r3 := byteAt_range s (i + 3)
  refine text_ext _ _ (by rw [wordT_size, ByteArray.size_extract]; omega) fun k hk => ?_
  rw [wordT_size] at hk
  rw [byteAt_extract s i (i + 4) k h (by omega)]
  have e0 : wordAt s i / 16777216 = byteAt s i := by unfold wordAt; omega
  have e1 : wordAt s i / 65536 % 256 = byteAt s (i + 1) := by unfold wordAt; omega
  have e2 : wordAt s i / 256 % 256 = byteAt s (i + 2) := by unfold wordAt; omega
  have e3 : wordAt s i % 256 = byteAt s (i + 3) := by unfold wordAt; omega
  unfold wordT
  rw [e0, e1, e2, e3]
  match k, hk with
  | 0, _ => exact byteAt_nums [byteAt s i, byteAt s (i + 1), byteAt s (i + 2), byteAt s (i + 3)] 0 (by simp) r0
  | 1, _ => exact byteAt_nums [byteAt s i, byteAt s (i + 1), byteAt s (i + 2), byteAt s (i + 3)] 1 (by simp) r1
  | 2, _ => exact byteAt_nums [byteAt s i, byteAt s (i + 1), byteAt s (i + 2), byteAt s (i + 3)] 2 (by simp) r2
  | 3, _ => exact byteAt_nums [byteAt s i, byteAt s (i + 1), byteAt s (i + 2), byteAt s (i + 3)] 3 (by simp) r3

theorem two_inj (n m : Int) (hn : 0 ≤ n ∧ n ≤ 65535) (hm : 0 ≤ m ∧ m ≤ 65535) (h : two n = two m) : n = m := by
  have e0 : byteAt (two n) 0 = byteAt (two m) 0 := congrArg (fun t => byteAt t 0) h
  have e1 : byteAt (two n) 1 = byteAt (two m) 1 := congrArg (fun t => byteAt t 1) h
  unfold two at e0 e1
  rw [byteAt_nums [n / 256 % 256, n % 256] 0 (by simp) ⟨by simp; omega, by simp; omega⟩, byteAt_nums [m / 256 % 256, m % 256] 0 (by simp) ⟨by simp; omega, by simp; omega⟩] at e0
  rw [byteAt_nums [n / 256 % 256, n % 256] 1 (by simp) ⟨by simp; omega, by simp; omega⟩, byteAt_nums [m / 256 % 256, m % 256] 1 (by simp) ⟨by simp; omega, by simp; omega⟩] at e1
  simp at e0 e1
  omega

theorem app_inj {a b c d : ByteArray} (h : a ++ b = c ++ d) (hs : a.size = c.size) : a = c ∧ b = d := by
  have h1 : (a ++ b).extract 0 a.size = (c ++ d).extract 0 a.size := congrArg (fun t => t.extract 0 a.size) h
  have h2 : (a ++ b).extract a.size (a.size + b.size) = (c ++ d).extract a.size (a.size + b.size) := congrArg (fun t => t.extract a.size (a.size + b.size)) h
  have hz : b.size = d.size := by
    have := congrArg ByteArray.size h
    simp only [ByteArray.size_append] at this
    omega
  refine ⟨?_, ?_⟩
  · rw [ByteArray.extract_append_eq_left rfl, hs, ByteArray.extract_append_eq_left rfl] at h1
    exact h1
  · rw [ByteArray.extract_append_eq_right rfl rfl, hs, hz, ByteArray.extract_append_eq_right rfl rfl] at h2
    exact h2

theorem cut_at (s : ByteArray) (a b c : Nat) (h : a ≤ b) (k : b ≤ c) (hc : c ≤ s.size) : s.extract a c = s.extract a b ++ s.extract b c := by
  rw [ByteArray.extract_append_extract]
  congr 1 <;> omega

theorem half_range (s : ByteArray) (i : Nat) : 0 ≤ halfAt s i ∧ halfAt s i ≤ 65535 := by
  have r0 := byteAt_range s i
  have r1 := byteAt_range s (i + 1)
  unfold halfAt
  omega

theorem word_range (s : ByteArray) (i : Nat) : IsWord (wordAt s i) := by
  have r0 := byteAt_range s i
  have r1 := byteAt_range s (i + 1)
  have r2 := byteAt_range s (i + 2)
  have r3 := byteAt_range s (i + 3)
  unfold IsWord wordAt
  omega

theorem ck_range (s : ByteArray) (h : s.size ≤ 2000) : 0 ≤ checksum s ∧ checksum s ≤ 65535 := by
  have h1 := ones_range s
  have h2 := ones_neg s
  rw [checksum, if_neg (by omega)]
  omega

/-- The packet's bytes that a text's fields tell. -/
def putBack (s : ByteArray) : ByteArray := putOf (wordAt s 12) (wordAt s 16) (halfAt s 4) (byteAt s 8) (byteAt s 9) (s.extract 20 s.size)

theorem put_back (s : ByteArray) (hs : 20 ≤ s.size) : putBack s = s ↔ isPkt s := by
  have r8 := byteAt_range s 8
  have r9 := byteAt_range s 9
  have r4 := half_range s 4
  have hz : (s.extract 20 s.size).size = s.size - 20 := by rw [ByteArray.size_extract]; omega
  by_cases hm : s.size ≤ 2000
  · have hok : pktOk (halfAt s 4) (byteAt s 8) (byteAt s 9) (s.extract 20 s.size) = true := by
      simp only [pktOk, Bool.and_eq_true, decide_eq_true_eq]
      omega
    have e8 : byteAt s 8 * 256 + byteAt s 9 = halfAt s 8 := rfl
    have hB : behindOf (wordAt s 12) (wordAt s 16) = s.extract 12 20 := by
      rw [behindOf, word_word s 12 (by omega), word_word s 16 (by omega), ← cut_at s 12 16 20 (by omega) (by omega) (by omega)]
    have hA : s.extract 0 10 = two (halfAt s 0) ++ two (halfAt s 2) ++ two (halfAt s 4) ++ two (halfAt s 6) ++ two (halfAt s 8) := by
      rw [two_half s 0 (by omega), two_half s 2 (by omega), two_half s 4 (by omega), two_half s 6 (by omega), two_half s 8 (by omega), ← cut_at s 0 2 4 (by omega) (by omega) (by omega), ← cut_at s 0 4 6 (by omega) (by omega) (by omega), ← cut_at s 0 6 8 (by omega) (by omega) (by omega), ← cut_at s 0 8 10 (by omega) (by omega) (by omega)]
    have hS : s = s.extract 0 10 ++ two (halfAt s 10) ++ s.extract 12 20 ++ s.extract 20 s.size := by
      rw [two_half s 10 (by omega), ← cut_at s 0 10 12 (by omega) (by omega) (by omega), ← cut_at s 0 12 20 (by omega) (by omega) (by omega), ← cut_at s 0 20 s.size (by omega) (by omega) (by omega)]
      simp
    have hN : (20 : Int) + ((s.extract 20 s.size).size : Int) = (s.size : Int) := by rw [hz]; omega
    have hA' : aheadOf (halfAt s 4) (byteAt s 8) (byteAt s 9) ((s.extract 20 s.size).size : Int) = two 17664 ++ two (s.size : Int) ++ two (halfAt s 4) ++ two 16384 ++ two (halfAt s 8) := by
      rw [aheadOf, hN, e8]
    have hk : ∀ A : ByteArray, A.size = 10 → 0 ≤ checksum (A ++ two 0 ++ s.extract 12 20) ∧ checksum (A ++ two 0 ++ s.extract 12 20) ≤ 65535 := fun A h => ck_range _ (by simp only [ByteArray.size_append, two_size, ByteArray.size_extract]; omega)
    rw [putBack, putOf, if_pos hok, hB, hA']
    constructor
    · intro h
      have h := h.trans hS
      obtain ⟨h, _⟩ := app_inj h (by simp only [ByteArray.size_append, two_size, ByteArray.size_extract]; omega)
      obtain ⟨h, _⟩ := app_inj h (by simp only [ByteArray.size_append, two_size, ByteArray.size_extract]; omega)
      obtain ⟨h, h10⟩ := app_inj h (by simp only [ByteArray.size_append, two_size, ByteArray.size_extract]; omega)
      rw [h] at h10
      have h10 := two_inj _ _ (hk _ (by simp only [ByteArray.size_extract]; omega)) (half_range s 10) h10
      rw [hA] at h
      obtain ⟨h, _⟩ := app_inj h (by simp only [ByteArray.size_append, two_size])
      obtain ⟨h, h6⟩ := app_inj h (by simp only [ByteArray.size_append, two_size])
      obtain ⟨h, _⟩ := app_inj h (by simp only [ByteArray.size_append, two_size])
      obtain ⟨h0, h2⟩ := app_inj h (by simp only [two_size])
      exact ⟨⟨hs, hm⟩, (two_inj _ _ (by omega) (half_range s 0) h0).symm, (two_inj _ _ (by omega) (half_range s 2) h2).symm, (two_inj _ _ (by omega) (half_range s 6) h6).symm, h10.symm⟩
    · rintro ⟨_, h0, h2, h6, h10⟩
      rw [hA, h0, h2, h6] at h10
      rw [← h10]
      conv => rhs; rw [hS, hA, h0, h2, h6]
  · have hok : ¬ pktOk (halfAt s 4) (byteAt s 8) (byteAt s 9) (s.extract 20 s.size) = true := by
      simp only [pktOk, Bool.and_eq_true, decide_eq_true_eq]
      omega
    rw [putBack, putOf, if_neg hok]
    refine ⟨fun h => ?_, fun h => absurd h.1.2 hm⟩
    rw [← h] at hs
    exact absurd hs (by decide)
end Go.Proofs.Ytigjppamjfnmcaa
