/-
  The numbers that a draw mixes in run through every number of 64 bits: so the draw of a text comes to its end, whatever the bytes.
-/
import Derived.Test.YtmgaikpninblgaaDraw
namespace Go.Proofs.Ytmgaikpninblgaa
open Go.ChangeShapes Go.WideShapes Go.ChangeAt Go.RowKit
set_option linter.unusedVariables false

/-- The next of the numbers that a draw mixes in. -/
def nextH (h : Int) : Int := wrap64 (wrap64 (h * 6364136223846793005) + 1442695040888963407)

def lin (h : Int) : Int := h * 6364136223846793005 + 1442695040888963407

def iter (f : Int → Int) : Nat → Int → Int
  | 0, h => h
  | n + 1, h => iter f n (f h)

theorem iter_add (f : Int → Int) (m n : Nat) (h : Int) : iter f (m + n) h = iter f n (iter f m h) := by
  induction m generalizing h with
  | zero => simp [iter]
  | succ m ih =>
    rw [show m + 1 + n = (m + n) + 1 by omega]
    simp only [iter]
    exact ih (f h)

theorem lin_pow (k : Nat) : ∃ A C m o : Int, (∀ h, iter lin (2 ^ k) h = A * h + C) ∧ A = 1 + 4 * (2 : Int) ^ k * m ∧ C = (2 : Int) ^ k * (2 * o + 1) := by
  induction k with
  | zero => exact ⟨6364136223846793005, 1442695040888963407, 1591034055961698251, 721347520444481703, fun h => by simp only [Nat.pow_zero, iter, lin]; omega, by decide, by decide⟩
  | succ k ih =>
    obtain ⟨A, C, m, o, h1, h2, h3⟩ := ih
    refine ⟨A * A, A * C + C, m + 2 * (2 : Int) ^ k * (m * m), 2 * o * (2 : Int) ^ k * m + (2 : Int) ^ k * m + o, ?_, ?_, ?_⟩
    · intro h
      rw [show 2 ^ (k + 1) = 2 ^ k + 2 ^ k by omega, iter_add, h1, h1]
      grind
    · rw [h2, Int.pow_succ]
      grind
    · rw [h2, h3, Int.pow_succ]
      grind

theorem lin_reach (k : Nat) (h t : Int) : ∃ n, n < 2 ^ k ∧ ∃ q, iter lin n h - t = (2 : Int) ^ k * q := by
  induction k with
  | zero => exact ⟨0, by decide, h - t, by simp [iter]⟩
  | succ k ih =>
    obtain ⟨n, hn, q, hq⟩ := ih
    rcases Int.emod_two_eq q with he | he
    · obtain ⟨r, rfl⟩ : ∃ r, q = 2 * r := ⟨q / 2, by omega⟩
      exact ⟨n, by omega, r, by rw [hq, Int.pow_succ]; grind⟩
    · obtain ⟨r, rfl⟩ : ∃ r, q = 2 * r + 1 := ⟨q / 2, by omega⟩
      obtain ⟨A, C, m, o, h1, h2, h3⟩ := lin_pow k
      refine ⟨n + 2 ^ k, by omega, r + 2 * m * iter lin n h + o + 1, ?_⟩
      rw [iter_add, h1, h2, h3, Int.pow_succ]
      grind

theorem nextH_range (h : Int) : -9223372036854775808 ≤ nextH h ∧ nextH h ≤ 9223372036854775807 := by
  unfold nextH wrap64
  omega

theorem nextH_mod (h g : Int) (e : (h - g) % 18446744073709551616 = 0) : (nextH h - lin g) % 18446744073709551616 = 0 := by
  unfold nextH lin wrap64
  omega

theorem iter_mod (n : Nat) (h g : Int) (e : (h - g) % 18446744073709551616 = 0) : (iter nextH n h - iter lin n g) % 18446744073709551616 = 0 := by
  induction n generalizing h g with
  | zero => exact e
  | succ n ih => exact ih _ _ (nextH_mod h g e)

theorem iter_range (n : Nat) (h : Int) (hr : -9223372036854775808 ≤ h ∧ h ≤ 9223372036854775807) : -9223372036854775808 ≤ iter nextH n h ∧ iter nextH n h ≤ 9223372036854775807 := by
  induction n generalizing h with
  | zero => exact hr
  | succ n ih => exact ih _ (nextH_range h)

theorem reach (h t : Int) (hr : -9223372036854775808 ≤ t ∧ t ≤ 9223372036854775807) : ∃ n, n < 18446744073709551616 ∧ iter nextH n (nextH h) = t := by
  obtain ⟨n, hn, q, hq⟩ := lin_reach 64 (nextH h) t
  refine ⟨n, hn, ?_⟩
  have h1 := iter_mod n (nextH h) (nextH h) (by omega)
  have h2 := iter_range n (nextH h) (nextH_range h)
  have hq' : iter lin n (nextH h) - t = 18446744073709551616 * q := hq
  omega

theorem inv_mul (d q a b n m : Int) (hab : a * b = 1 + n * m) (h : d * a = n * q) : d = n * (q * b - d * m) := by
  have e : d * (a * b) = n * (q * b) := by
    rw [← Int.mul_assoc, h, Int.mul_assoc]
  rw [hab] at e
  grind

theorem lin_inj (a b n m c x y z q1 q2 : Int) (hab : a * b = 1 + n * m) (h1 : z - (x * a + c) = n * q1) (h2 : z - (y * a + c) = n * q2) : ∃ r, x - y = n * r :=
  ⟨_, inv_mul (x - y) (q2 - q1) a b n m hab (by grind)⟩

theorem dvd_of_mod (x n : Int) (h : x % n = 0) : ∃ q, x = n * q := ⟨x / n, (Int.mul_ediv_cancel' (Int.dvd_of_emod_eq_zero h)).symm⟩

theorem apart (x y r : Int) (hx : -9223372036854775808 ≤ x ∧ x ≤ 9223372036854775807) (hy : -9223372036854775808 ≤ y ∧ y ≤ 9223372036854775807) (h : x - y = 18446744073709551616 * r) : x = y := by
  omega

theorem nextH_inj (x y : Int) (hx : -9223372036854775808 ≤ x ∧ x ≤ 9223372036854775807) (hy : -9223372036854775808 ≤ y ∧ y ≤ 9223372036854775807) (e : nextH x = nextH y) : x = y := by
  obtain ⟨q1, h1⟩ := dvd_of_mod _ _ (nextH_mod x x (by simp))
  obtain ⟨q2, h2⟩ := dvd_of_mod _ _ (nextH_mod y y (by simp))
  rw [e] at h1
  obtain ⟨r, hr⟩ := lin_inj 6364136223846793005 13877824140714322085 18446744073709551616 4787856489426250814 1442695040888963407 x y (nextH y) q1 q2 (by decide +kernel) h1 h2
  exact apart x y r hx hy hr

theorem left_ex (h : Int) : ∃ m : Nat, 1 ≤ m ∧ m ≤ 18446744073709551616 ∧ iter nextH m h = -8537515843615347374 := by
  obtain ⟨n, hn, he⟩ := reach h (-8537515843615347374) (by omega)
  exact ⟨n + 1, by omega, by omega, he⟩

/-- How many numbers, of at most f, are mixed in till a fixed one comes. -/
def leftFrom : Nat → Int → Nat
  | 0, _ => 0
  | f + 1, h => if nextH h = -8537515843615347374 then 1 else leftFrom f (nextH h) + 1

theorem leftFrom_spec (f : Nat) (h : Int) (hex : ∃ m : Nat, 1 ≤ m ∧ m ≤ f ∧ iter nextH m h = -8537515843615347374) :
    1 ≤ leftFrom f h ∧ leftFrom f h ≤ f ∧ iter nextH (leftFrom f h) h = -8537515843615347374 ∧ ∀ k, 1 ≤ k → k < leftFrom f h → iter nextH k h ≠ -8537515843615347374 := by
  induction f generalizing h with
  | zero =>
    obtain ⟨m, h1, h2, _⟩ := hex
    omega
  | succ f ih =>
    unfold leftFrom
    by_cases he : nextH h = -8537515843615347374
    · rw [if_pos he]
      exact ⟨by omega, by omega, he, fun k h1 h2 => by omega⟩
    · rw [if_neg he]
      obtain ⟨m, h1, h2, h3⟩ := hex
      obtain ⟨j, rfl⟩ : ∃ j, m = j + 1 := ⟨m - 1, by omega⟩
      have hj : 1 ≤ j := by
        rcases Nat.eq_zero_or_pos j with h0 | h0
        · subst h0
          exact absurd h3 he
        · exact h0
      obtain ⟨a1, a2, a3, a4⟩ := ih (nextH h) ⟨j, hj, by omega, h3⟩
      refine ⟨by omega, by omega, a3, ?_⟩
      intro k k1 k2 k3
      obtain ⟨i, rfl⟩ : ∃ i, k = i + 1 := ⟨k - 1, by omega⟩
      rcases Nat.eq_zero_or_pos i with h0 | h0
      · subst h0
        exact he k3
      · exact a4 i h0 (by omega) k3

/-- How many numbers are still mixed in till a fixed one comes. -/
def left (h : Int) : Nat := leftFrom 18446744073709551616 h

theorem left_spec (h : Int) : 1 ≤ left h ∧ left h ≤ 18446744073709551616 ∧ iter nextH (left h) h = -8537515843615347374 ∧ ∀ k, 1 ≤ k → k < left h → iter nextH k h ≠ -8537515843615347374 := leftFrom_spec 18446744073709551616 h (left_ex h)

theorem left_iter (h : Int) (c : Nat) (hc : c < left h) : left (iter nextH c h) + c = left h := by
  obtain ⟨a1, a2, a3, a4⟩ := left_spec h
  obtain ⟨b1, b2, b3, b4⟩ := left_spec (iter nextH c h)
  rcases Nat.lt_trichotomy (left (iter nextH c h) + c) (left h) with hl | hl | hl
  · rw [← iter_add] at b3
    exact absurd b3 (by rw [Nat.add_comm] at hl; exact a4 _ (by omega) hl)
  · exact hl
  · have e : iter nextH (left h - c) (iter nextH c h) = -8537515843615347374 := by
      rw [← iter_add, show c + (left h - c) = left h by omega]
      exact a3
    exact absurd e (b4 _ (by omega) (by omega))

/-- The byte that a number mixes in. -/
def byteOf (h : Int) : Int := bits .and .i64 (bits .xor .i64 (h / 8589934592) (h / 35184372088832)) 255

theorem back (n : Nat) (x y : Int) (hx : -9223372036854775808 ≤ x ∧ x ≤ 9223372036854775807) (hy : -9223372036854775808 ≤ y ∧ y ≤ 9223372036854775807) (e : iter nextH n x = iter nextH n y) : x = y := by
  induction n generalizing x y with
  | zero => exact e
  | succ n ih => exact nextH_inj x y hx hy (ih _ _ (nextH_range x) (nextH_range y) e)

/-- Near the fixed number the bytes are such that a round of the draw of a text brings a byte. -/
theorem good (h : Int) (hl : left h ≤ 6) : byteOf (nextH h) % 5 = 0 ∨ byteOf (nextH h) % 5 = 3 ∨ byteOf (nextH h) % 5 = 4 := by
  obtain ⟨a1, a2, a3, a4⟩ := left_spec h
  clear a4 a2
  have hr := nextH_range h
  generalize left h = d at hl a1 a3
  match d, a1, hl, a3 with
  | 1, _, _, a3 =>
    rw [show nextH h = -8537515843615347374 from a3]
    decide +kernel
  | 2, _, _, a3 =>
    rw [back 1 (nextH h) 4277904539438339567 hr (by omega) (a3.trans (by decide +kernel))]
    decide +kernel
  | 3, _, _, a3 =>
    rw [back 2 (nextH h) 823944911895956256 hr (by omega) (a3.trans (by decide +kernel))]
    decide +kernel
  | 4, _, _, a3 =>
    rw [back 3 (nextH h) (-1374857760899466315) hr (by omega) (a3.trans (by decide +kernel))]
    decide +kernel
  | 5, _, _, a3 =>
    rw [back 4 (nextH h) (-67214209605643330) hr (by omega) (a3.trans (by decide +kernel))]
    decide +kernel
  | 6, _, _, a3 =>
    rw [back 5 (nextH h) (-7048745253176772213) hr (by omega) (a3.trans (by decide +kernel))]
    decide +kernel
end Go.Proofs.Ytmgaikpninblgaa
