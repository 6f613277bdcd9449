/-
  Pure facts: the halves of a packet's header sum to all ones; so one with a half turned is none, nor is one with a byte more.
-/
import Derived.Test.YtigjppamjfnmcaaSumFacts
import Derived.Test.YtigjppamjfnmcaaPktFacts
namespace Go.Proofs.Ytigjppamjfnmcaa
open Go.ChangeShapes Go.WideShapes Go.ChangeAt Go.RowKit
set_option linter.unusedVariables false
set_option maxRecDepth 10000

theorem byteAt_out (s : ByteArray) (i : Nat) (h : s.size ≤ i) : byteAt s i = 0 := by
  rw [byteAt, dif_neg (by omega)]

theorem pkt_sum (s : ByteArray) (h : isPkt s) : part (byteAt s) 20 % 65535 = 0 := by
  obtain ⟨⟨h20, h2000⟩, _, _, _, hck⟩ := h
  have zl : (s.extract 0 10).size = 10 := by rw [ByteArray.size_extract]; omega
  have zr : (s.extract 12 20).size = 8 := by rw [ByteArray.size_extract]; omega
  have z2 := two_size 0
  have b0 : byteAt (two 0) 0 = 0 := byteAt_nums [0 / 256 % 256, 0 % 256] 0 (by simp) (by simp)
  have b1 : byteAt (two 0) 1 = 0 := byteAt_nums [0 / 256 % 256, 0 % 256] 1 (by simp) (by simp)
  have hX : ∀ i, i < 20 → i ≠ 10 → i ≠ 11 → byteAt (s.extract 0 10 ++ two 0 ++ s.extract 12 20) i = byteAt s i := by
    intro i hi h1 h2
    by_cases hl : i < 10
    · rw [byteAt_append_left _ _ i (by rw [ByteArray.size_append]; omega), byteAt_append_left _ _ i (by omega), byteAt_extract s 0 10 i (by omega) (by omega), Nat.zero_add]
    · obtain ⟨j, rfl⟩ : ∃ j, i = 12 + j := ⟨i - 12, by omega⟩
      have := byteAt_append_right (s.extract 0 10 ++ two 0) (s.extract 12 20) j (by omega)
      rw [show (s.extract 0 10 ++ two 0).size = 12 by rw [ByteArray.size_append]; omega] at this
      rw [this, byteAt_extract s 12 20 j (by omega) (by omega)]
  have h10 : byteAt (s.extract 0 10 ++ two 0 ++ s.extract 12 20) 10 = 0 := by
    rw [byteAt_append_left _ _ 10 (by rw [ByteArray.size_append]; omega)]
    have := byteAt_append_right (s.extract 0 10) (two 0) 0 (by omega)
    rw [zl] at this
    exact this.trans b0
  have h11 : byteAt (s.extract 0 10 ++ two 0 ++ s.extract 12 20) 11 = 0 := by
    rw [byteAt_append_left _ _ 11 (by rw [ByteArray.size_append]; omega)]
    have := byteAt_append_right (s.extract 0 10) (two 0) 1 (by omega)
    rw [zl] at this
    exact this.trans b1
  have zX : (s.extract 0 10 ++ two 0 ++ s.extract 12 20).size = 20 := by
    rw [ByteArray.size_append, ByteArray.size_append]
    omega
  generalize s.extract 0 10 ++ two 0 ++ s.extract 12 20 = X at hck hX h10 h11 zX
  have hg := part_turn (byteAt s) (fun i => if i < 20 then byteAt X i else byteAt s i) 5 8 (fun i h1 h2 => by
    show (if i < 20 then byteAt X i else byteAt s i) = byteAt s i
    split
    · exact hX i (by assumption) (by omega) (by omega)
    · rfl)
  have hc : part (fun i => if i < 20 then byteAt X i else byteAt s i) 20 = part (byteAt X) 20 := part_congr _ _ 20 (fun i hi => if_pos hi)
  have hp := part_range (byteAt X) (byteAt_range X) 20
  have hon := ones_small X (by omega)
  rw [zX] at hon
  have hfm := foldOf_mod (part (byteAt X) 20) hp.1
  rw [checksum, if_neg (by omega), hon] at hck
  simp only [show 2 * 5 + 2 + 8 = 20 from rfl, show 2 * 5 = 10 from rfl, show 2 * 5 + 1 = 11 from rfl, show (10 : Nat) < 20 from by decide, show (11 : Nat) < 20 from by decide, if_true, h10, h11] at hg
  rw [hc] at hg
  have hck' : byteAt s 10 * 256 + byteAt s 11 = 65535 - foldOf (part (byteAt X) 20) := hck
  generalize foldOf (part (byteAt X) 20) = f at hck' hfm
  omega

theorem xor_zero (b : Int) (hb : 0 ≤ b ∧ b < 256) : bits .xor .u8 0 b = b := by
  rw [u8_xor 0 b (by omega) (by omega) hb.1 hb.2]
  simp
  omega

theorem turned_half (s : ByteArray) (k : Nat) (x : Int) (hk : 2 * k + 1 < s.size) (hx : 1 ≤ x ∧ x ≤ 65535) (h : x ≠ 65535) :
    (byteAt (turnOf s (k : Int) x) (2 * k) * 256 + byteAt (turnOf s (k : Int) x) (2 * k + 1) - (byteAt s (2 * k) * 256 + byteAt s (2 * k + 1))) % 65535 ≠ 0 := by
  have e0 := byteAt_turn s k x hk hx (2 * k) (by omega)
  have e1 := byteAt_turn s k x hk hx (2 * k + 1) (by omega)
  rw [turnF, if_neg (by omega), if_pos rfl] at e0
  rw [turnF, if_pos rfl] at e1
  have r0 := byteAt_range s (2 * k)
  have r1 := byteAt_range s (2 * k + 1)
  have t0 := xor_range _ _ r0 (show 0 ≤ x / 256 ∧ x / 256 < 256 by omega)
  have t1 := xor_range _ _ r1 (show 0 ≤ x % 256 ∧ x % 256 < 256 by omega)
  have n0 : x / 256 ≠ 0 → bits .xor .u8 (byteAt s (2 * k)) (x / 256) ≠ byteAt s (2 * k) := xor_turns (byteAt s (2 * k)) (x / 256) r0 (by omega)
  have n1 : x % 256 ≠ 0 → bits .xor .u8 (byteAt s (2 * k + 1)) (x % 256) ≠ byteAt s (2 * k + 1) := xor_turns (byteAt s (2 * k + 1)) (x % 256) r1 (by omega)
  have b0 := xor_back (byteAt s (2 * k)) (x / 256) r0 (by omega)
  have b1 := xor_back (byteAt s (2 * k + 1)) (x % 256) r1 (by omega)
  have z0 := xor_zero (x / 256) (by omega)
  have z1 := xor_zero (x % 256) (by omega)
  rw [e0, e1]
  clear e0 e1
  generalize byteAt s (2 * k) = p at *
  generalize byteAt s (2 * k + 1) = q at *
  intro hmod
  have key : ∀ p' q' : Int, 0 ≤ p' ∧ p' < 256 → 0 ≤ q' ∧ q' < 256 → (p' * 256 + q' - (p * 256 + q)) % 65535 = 0 → (p' = p ∧ q' = q) ∨ (p = 0 ∧ q = 0 ∧ p' = 255 ∧ q' = 255) ∨ (p = 255 ∧ q = 255 ∧ p' = 0 ∧ q' = 0) := by
    intro p' q' h1 h2 h3
    clear t0 t1 n0 n1 b0 b1 z0 z1 hmod
    have h4 : p' * 256 + q' - (p * 256 + q) = 0 ∨ p' * 256 + q' - (p * 256 + q) = 65535 ∨ p' * 256 + q' - (p * 256 + q) = -65535 := by
      generalize hD : p' * 256 + q' - (p * 256 + q) = D at h3
      have hlo : -65535 ≤ D := by omega
      have hhi : D ≤ 65535 := by omega
      clear hD
      omega
    rcases h4 with h4 | h4 | h4
    · exact .inl ⟨by omega, by omega⟩
    · exact .inr (.inl ⟨by omega, by omega, by omega, by omega⟩)
    · exact .inr (.inr ⟨by omega, by omega, by omega, by omega⟩)
  rcases key _ _ t0 t1 hmod with ⟨h1, h2⟩ | ⟨h1, h2, h3, h4⟩ | ⟨h1, h2, h3, h4⟩
  · by_cases hh : x / 256 = 0
    · exact n1 (by omega) h2
    · exact n0 hh h1
  · rw [h1, z0] at h3
    rw [h2, z1] at h4
    omega
  · rw [h3, z0] at b0
    rw [h4, z1] at b1
    omega

theorem turned_not (s : ByteArray) (h : isPkt s) (k : Nat) (hk : k < 10) (x : Int) (hx : 1 ≤ x ∧ x ≤ 65534) : ¬ isPkt (turnOf s (k : Int) x) := by
  intro h'
  have hs := h.1.1
  have e1 := pkt_sum s h
  have e2 := pkt_sum _ h'
  have e3 := part_turn (byteAt s) (byteAt (turnOf s (k : Int) x)) k (18 - 2 * k) (fun i h1 h2 => by
    by_cases hi : i < s.size
    · rw [byteAt_turn s k x (by omega) (by omega) i hi, turnF, if_neg h2, if_neg h1]
    · rw [byteAt_out _ i (by rw [turnOf_size]; omega), byteAt_out s i (by omega)])
  rw [show 2 * k + 2 + (18 - 2 * k) = 20 by omega] at e3
  have := turned_half s k x (by omega) (by omega) (by omega)
  omega

theorem longer_not (s t : ByteArray) (h : isPkt s) (ht : 0 < t.size) : ¬ isPkt (s ++ t) := by
  intro h'
  have h1 := h.2.2.1
  have h2 := h'.2.2.1
  have hs := h.1.1
  rw [halfAt, byteAt_append_left s t 2 (by omega), byteAt_append_left s t 3 (by omega), ByteArray.size_append] at h2
  rw [halfAt] at h1
  simp only [show 2 + 1 = 3 from rfl] at h1
  omega
end Go.Proofs.Ytigjppamjfnmcaa
