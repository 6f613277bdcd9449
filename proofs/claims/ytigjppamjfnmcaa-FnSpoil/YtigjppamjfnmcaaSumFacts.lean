/-
  Sums of texts: a text with its own sum behind it; a text with one half turned. No function of the program is walked here.
-/
import Derived.Test.YtigjppamjfnmcaaShows
namespace Go.Proofs.Ytigjppamjfnmcaa
open Go.ChangeShapes Go.WideShapes Go.ChangeAt Go.RowKit
set_option linter.unusedVariables false

theorem part_congr (f g : Nat → Int) (n : Nat) (h : ∀ i, i < n → f i = g i) : part f n = part g n := by
  induction n with
  | zero => rfl
  | succ n ih =>
    simp only [part]
    rw [ih (fun i hi => h i (by omega)), h n (by omega)]

theorem byteAt_append_left (s q : ByteArray) (i : Nat) (h : i < s.size) : byteAt (s ++ q) i = byteAt s i := by
  rw [byteAt_in s i h, byteAt_in (s ++ q) i (by rw [ByteArray.size_append]; omega), ByteArray.getElem_append_left h]

theorem byteAt_append_right (s q : ByteArray) (i : Nat) (h : i < q.size) : byteAt (s ++ q) (s.size + i) = byteAt q i := by
  rw [byteAt_in q i h, byteAt_in (s ++ q) (s.size + i) (by rw [ByteArray.size_append]; omega), ByteArray.getElem_append_right (by omega)]
  simp

theorem byteAt_two0 (a b : Int) (h : 0 ≤ a ∧ a < 256) : byteAt (strOfNums [a, b]) 0 = a := by
  rw [byteAt_in _ 0 (by rw [strOfNums_size]; simp)]
  show ((UInt8.ofNat a.toNat).toNat : Int) = a
  rw [UInt8.toNat_ofNat']
  omega

theorem byteAt_two1 (a b : Int) (h : 0 ≤ b ∧ b < 256) : byteAt (strOfNums [a, b]) 1 = b := by
  rw [byteAt_in _ 1 (by rw [strOfNums_size]; simp)]
  show ((UInt8.ofNat b.toNat).toNat : Int) = b
  rw [UInt8.toNat_ofNat']
  omega

theorem ones_small (s : ByteArray) (h : s.size ≤ 2000) : ones s = foldOf (part (byteAt s) s.size) := by
  rw [ones, if_neg (by omega)]

theorem ones_in (s : ByteArray) (h : s.size ≤ 2000) : 0 ≤ ones s ∧ ones s ≤ 65535 := by
  rw [ones_small s h]
  exact foldOf_range _ (part_range (byteAt s) (byteAt_range s) s.size).1

theorem foldOf_whole (p : Int) (h : 0 ≤ p) : foldOf (p + (65535 - foldOf p)) = 65535 := by
  have h1 := foldOf_range p h
  have h2 := foldOf_mod p h
  by_cases h0 : p = 0
  · subst h0
    decide
  · have h3 := foldOf_pos p (by omega)
    generalize foldOf p = f at *
    unfold foldOf
    rw [if_neg (by omega)]
    omega

/-- A text with its own sum behind it sums to all ones. -/
theorem ones_own (s : ByteArray) (h : s.size ≤ 1998) (he : s.size % 2 = 0) : ones (s ++ strOfNums [(65535 - ones s) / 256, (65535 - ones s) % 256]) = 65535 := by
  have hin := ones_in s (by omega)
  have hp := part_range (byteAt s) (byteAt_range s) s.size
  have hz : (strOfNums [(65535 - ones s) / 256, (65535 - ones s) % 256]).size = 2 := strOfNums_size _
  have b0 := byteAt_append_right s (strOfNums [(65535 - ones s) / 256, (65535 - ones s) % 256]) 0 (by omega)
  have b1 := byteAt_append_right s (strOfNums [(65535 - ones s) / 256, (65535 - ones s) % 256]) 1 (by omega)
  rw [byteAt_two0 _ _ (by omega)] at b0
  rw [byteAt_two1 _ _ (by omega)] at b1
  have hl := part_congr (byteAt (s ++ strOfNums [(65535 - ones s) / 256, (65535 - ones s) % 256])) (byteAt s) s.size (fun i hi => byteAt_append_left s _ i hi)
  have h2 := part_two (byteAt (s ++ strOfNums [(65535 - ones s) / 256, (65535 - ones s) % 256])) s.size he
  rw [Nat.add_zero] at b0
  rw [hl, b0, b1] at h2
  rw [ones_small _ (by rw [ByteArray.size_append]; omega), ByteArray.size_append, hz, ← h2]
  have e : part (byteAt s) s.size + ((65535 - ones s) / 256 * 256 + (65535 - ones s) % 256) = part (byteAt s) s.size + (65535 - foldOf (part (byteAt s) s.size)) := by
    rw [← ones_small s (by omega)]
    omega
  rw [e]
  exact foldOf_whole _ hp.1

theorem xor_range (a b : Int) (ha : 0 ≤ a ∧ a < 256) (hb : 0 ≤ b ∧ b < 256) : 0 ≤ bits .xor .u8 a b ∧ bits .xor .u8 a b < 256 := by
  rw [u8_xor a b ha.1 ha.2 hb.1 hb.2]
  have : a.toNat ^^^ b.toNat < 2 ^ 8 := Nat.xor_lt_two_pow (by omega) (by omega)
  omega

theorem xor_back (a b : Int) (ha : 0 ≤ a ∧ a < 256) (hb : 0 ≤ b ∧ b < 256) : bits .xor .u8 (bits .xor .u8 a b) b = a := by
  have h := xor_range a b ha hb
  rw [u8_xor _ b h.1 h.2 hb.1 hb.2, u8_xor a b ha.1 ha.2 hb.1 hb.2, Int.toNat_natCast, Nat.xor_assoc, Nat.xor_self, Nat.xor_zero]
  omega

theorem xor_turns (a b : Int) (ha : 0 ≤ a ∧ a < 256) (hb : 0 ≤ b ∧ b < 256) (h0 : b ≠ 0) : bits .xor .u8 a b ≠ a := by
  intro e
  have h1 := xor_back a b ha hb
  rw [e, e] at h1
  rw [u8_xor a b ha.1 ha.2 hb.1 hb.2] at e
  have e2 : a.toNat ^^^ b.toNat = a.toNat := by omega
  have e3 : a.toNat ^^^ (a.toNat ^^^ b.toNat) = 0 := by rw [e2, Nat.xor_self]
  rw [← Nat.xor_assoc, Nat.xor_self, Nat.zero_xor] at e3
  omega

theorem turnF_range (f : Nat → Int) (hf : ∀ i, 0 ≤ f i ∧ f i < 256) (k : Nat) (x : Int) (hx : 1 ≤ x ∧ x ≤ 65535) (i : Nat) : 0 ≤ turnF f k x i ∧ turnF f k x i < 256 := by
  unfold turnF
  split
  · exact xor_range _ _ (hf i) (by omega)
  · split
    · exact xor_range _ _ (hf i) (by omega)
    · exact hf i

theorem part_turn (f g : Nat → Int) (k d : Nat) (h : ∀ i, i ≠ 2 * k → i ≠ 2 * k + 1 → g i = f i) :
    part g (2 * k + 2 + d) = part f (2 * k + 2 + d) - (f (2 * k) * 256 + f (2 * k + 1)) + (g (2 * k) * 256 + g (2 * k + 1)) := by
  induction d with
  | zero =>
    have h1 := part_two f (2 * k) (by omega)
    have h2 := part_two g (2 * k) (by omega)
    have h3 := part_congr g f (2 * k) (fun i hi => h i (by omega) (by omega))
    show part g (2 * k + 2) = part f (2 * k + 2) - _ + _
    rw [← h1, ← h2, h3]
    omega
  | succ d ih =>
    rw [show 2 * k + 2 + (d + 1) = (2 * k + 2 + d) + 1 by omega]
    simp only [part]
    rw [ih, h (2 * k + 2 + d) (by omega) (by omega)]
    split <;> omega

theorem turn_in (s : ByteArray) (k : Nat) (x : Int) (hk : 2 * k + 1 < s.size) (hx : 1 ≤ x ∧ x ≤ 65535) : turnOf s (k : Int) x = textOf (turnF (byteAt s) k x) s.size := by
  rw [turnOf, if_pos ⟨⟨by omega, by omega⟩, hx⟩]
  rfl

theorem byteAt_turn (s : ByteArray) (k : Nat) (x : Int) (hk : 2 * k + 1 < s.size) (hx : 1 ≤ x ∧ x ≤ 65535) (i : Nat) (hi : i < s.size) : byteAt (turnOf s (k : Int) x) i = turnF (byteAt s) k x i := by
  rw [turn_in s k x hk hx]
  exact byteAt_textOf _ _ _ hi (turnF_range _ (byteAt_range s) k x hx i)

theorem turn_back (s : ByteArray) (k : Nat) (x : Int) (hk : 2 * k + 1 < s.size) (hx : 1 ≤ x ∧ x ≤ 65535) : turnOf (turnOf s (k : Int) x) (k : Int) x = s := by
  have hz := turnOf_size s (k : Int) x
  refine text_ext _ _ (by rw [turnOf_size, hz]) ?_
  intro i hi
  rw [turnOf_size, hz] at hi
  rw [byteAt_turn (turnOf s (k : Int) x) k x (by rw [hz]; exact hk) hx i (by rw [hz]; exact hi)]
  have hb := byteAt_turn s k x hk hx i hi
  unfold turnF at hb ⊢
  have hr := byteAt_range s i
  split at hb
  · rw [if_pos (by assumption), hb]
    exact xor_back _ _ hr (by omega)
  · split at hb
    · rw [if_neg (by assumption), if_pos (by assumption), hb]
      exact xor_back _ _ hr (by omega)
    · rw [if_neg (by assumption), if_neg (by assumption), hb]

theorem turn_differs (s : ByteArray) (k : Nat) (x : Int) (hk : 2 * k + 1 < s.size) (hx : 1 ≤ x ∧ x ≤ 65535) : turnOf s (k : Int) x ≠ s := by
  intro e
  have h0 := byteAt_turn s k x hk hx (2 * k) (by omega)
  have h1 := byteAt_turn s k x hk hx (2 * k + 1) hk
  rw [e] at h0 h1
  rw [turnF, if_neg (by omega), if_pos rfl] at h0
  rw [turnF, if_pos rfl] at h1
  by_cases hd : x / 256 = 0
  · exact xor_turns _ _ (byteAt_range s (2 * k + 1)) (by omega) (by omega) h1.symm
  · exact xor_turns _ _ (byteAt_range s (2 * k)) (by omega) hd h0.symm

theorem part_turned (s : ByteArray) (k : Nat) (x : Int) (hk : 2 * k + 1 < s.size) (hx : 1 ≤ x ∧ x ≤ 65535) : part (byteAt (turnOf s (k : Int) x)) s.size = part (byteAt s) s.size - (byteAt s (2 * k) * 256 + byteAt s (2 * k + 1)) + (byteAt (turnOf s (k : Int) x) (2 * k) * 256 + byteAt (turnOf s (k : Int) x) (2 * k + 1)) := by
  have h := part_turn (byteAt s) (fun i => if i < s.size then byteAt (turnOf s (k : Int) x) i else byteAt s i) k (s.size - (2 * k + 2)) (by
    intro i h1 h2
    show (if i < s.size then byteAt (turnOf s (k : Int) x) i else byteAt s i) = byteAt s i
    split
    · rw [byteAt_turn s k x hk hx i (by assumption), turnF, if_neg h2, if_neg h1]
    · rfl)
  rw [show 2 * k + 2 + (s.size - (2 * k + 2)) = s.size by omega] at h
  rw [part_congr _ (byteAt (turnOf s (k : Int) x)) s.size (fun i hi => by simp [hi])] at h
  simp only [if_pos hk, if_pos (show 2 * k < s.size by omega)] at h
  exact h

/-- What SumUpdate says of a turned half. -/
theorem update_turned (s : ByteArray) (k : Nat) (x : Int) (hk : 2 * k + 1 < s.size) (hx : 1 ≤ x ∧ x ≤ 65535) (hs : s.size ≤ 2000) :
    0 ≤ updateOf (65535 - ones s) (256 * byteAt s (2 * k) + byteAt s (2 * k + 1)) (256 * byteAt (turnOf s (k : Int) x) (2 * k) + byteAt (turnOf s (k : Int) x) (2 * k + 1)) ∧
    updateOf (65535 - ones s) (256 * byteAt s (2 * k) + byteAt s (2 * k + 1)) (256 * byteAt (turnOf s (k : Int) x) (2 * k) + byteAt (turnOf s (k : Int) x) (2 * k + 1)) ≤ 65535 ∧
    updateOf (65535 - ones s) (256 * byteAt s (2 * k) + byteAt s (2 * k + 1)) (256 * byteAt (turnOf s (k : Int) x) (2 * k) + byteAt (turnOf s (k : Int) x) (2 * k + 1)) % 65535 = (65535 - ones (turnOf s (k : Int) x)) % 65535 := by
  have hz := turnOf_size s (k : Int) x
  have hp := part_turned s k x hk hx
  have o1 := ones_small s hs
  have o2 := ones_small (turnOf s (k : Int) x) (by rw [hz]; exact hs)
  have r1 := ones_in s hs
  have a0 := byteAt_range s (2 * k)
  have a1 := byteAt_range s (2 * k + 1)
  have b0 := byteAt_range (turnOf s (k : Int) x) (2 * k)
  have b1 := byteAt_range (turnOf s (k : Int) x) (2 * k + 1)
  have p1 := part_range (byteAt s) (byteAt_range s) s.size
  have p2 := part_range (byteAt (turnOf s (k : Int) x)) (byteAt_range _) s.size
  rw [hz] at o2
  have m1 := foldOf_mod _ p1.1
  have m2 := foldOf_mod _ p2.1
  rw [← o1] at m1
  rw [← o2] at m2
  rw [updateOf, if_pos ⟨by omega, by omega, by omega⟩]
  generalize part (byteAt s) s.size = P at *
  generalize part (byteAt (turnOf s (k : Int) x)) s.size = P' at *
  generalize byteAt s (2 * k) = x0 at *
  generalize byteAt s (2 * k + 1) = x1 at *
  generalize byteAt (turnOf s (k : Int) x) (2 * k) = y0 at *
  generalize byteAt (turnOf s (k : Int) x) (2 * k + 1) = y1 at *
  generalize ones (turnOf s (k : Int) x) = o' at *
  clear o1 o2
  generalize ones s = o at *
  have m3 := foldOf_mod (131070 - (65535 - o) - (256 * x0 + x1) + (256 * y0 + y1)) (by omega)
  have m4 := foldOf_range (131070 - (65535 - o) - (256 * x0 + x1) + (256 * y0 + y1)) (by omega)
  generalize foldOf (131070 - (65535 - o) - (256 * x0 + x1) + (256 * y0 + y1)) = f at *
  omega

theorem shows_sums (s : ByteArray) (k x : Int) (hs : s.size ≤ 2000) : shows s k x = ((65535 - ones s) % 65535 != (65535 - ones (turnOf s k x)) % 65535) := by
  have r1 := ones_in s hs
  have r2 := ones_in (turnOf s k x) (by rw [turnOf_size]; exact hs)
  unfold shows
  rw [Int.tmod_eq_emod_of_nonneg r1.1, Int.tmod_eq_emod_of_nonneg r2.1]
  generalize ones s = o at *
  generalize ones (turnOf s k x) = o' at *
  rw [Bool.eq_iff_iff]
  simp only [bne_iff_ne]
  omega

theorem turn_out (s : ByteArray) (k x : Int) (h : ¬ ((0 ≤ k ∧ k ≤ (s.size : Int) / 2 - 1) ∧ 1 ≤ x ∧ x ≤ 65535)) : turnOf s k x = s := by
  rw [turnOf, if_neg h]

theorem shows_out (s : ByteArray) (k x : Int) (h : ¬ ((0 ≤ k ∧ k ≤ (s.size : Int) / 2 - 1) ∧ 1 ≤ x ∧ x ≤ 65535)) : shows s k x = false := by
  simp [shows, turn_out s k x h]
end Go.Proofs.Ytigjppamjfnmcaa
