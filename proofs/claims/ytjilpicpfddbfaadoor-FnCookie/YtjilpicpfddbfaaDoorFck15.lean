/-
  What a cookie tells: it is known in its epoch and the next one, and not later.
-/
import Derived.Test.YtjilpicpfddbfaaDoorCc15
import Derived.Test.YtjilpicpfddbfaaDoorMss15
namespace Go.Proofs.YtjilpicpfddbfaaDoor
open Go.ChangeShapes Go.WideShapes Go.ChangeAt Go.RowKit Go.Deep
set_option linter.unusedVariables false
set_option maxRecDepth 10000

theorem ckOf_word (s h p j q e k : Int) : IsWord (ckOf s h p j q e k) := by
  unfold ckOf IsWord
  split
  · rename_i hc
    simp only [ckOk, Bool.and_eq_true, decide_eq_true_eq] at hc
    have hr := ckMix_range s h p j q e k
    generalize ckMix s h p j q e k = M at hr ⊢
    omega
  · omega

/-- The three parts of a cookie. -/
theorem ckOf_parts (s h p j q e k : Int) (hc : ckOk p q e = true) (hk : 0 ≤ k ∧ k ≤ 7) : ckOf s h p j q e k / 16777216 % 8 = k ∧ ckOf s h p j q e k / 134217728 = e % 32 := by
  have h2 : (ckOk p q e && decide (0 ≤ k ∧ k ≤ 7)) = true := by rw [hc, decide_eq_true hk]; rfl
  unfold ckOf
  rw [if_pos h2]
  have hr := ckMix_range s h p j q e k
  generalize ckMix s h p j q e k = M at hr ⊢
  have he := ckOk_in hc
  constructor <;> omega

theorem ckOk_other {p q e e' : Int} (hc : ckOk p q e = true) (h : 0 ≤ e' ∧ e' ≤ 1000000000) : ckOk p q e' = true := by
  unfold ckOk at hc ⊢
  simp only [Bool.and_eq_true, decide_eq_true_eq] at hc ⊢
  exact ⟨hc.1, h⟩

theorem known_now (s h p j q e k : Int) (hc : ckOk p q e = true) (hk : 0 ≤ k ∧ k ≤ 7) : ckKnown s h p j q e (ckOf s h p j q e k) = true ∧ ckStep s h p j q e (ckOf s h p j q e k) = k := by
  obtain ⟨h1, h2⟩ := ckOf_parts s h p j q e k hc hk
  have hn : ckKnown s h p j q e (ckOf s h p j q e k) = true := by
    unfold ckKnown
    rw [h1, hc]
    simp
  exact ⟨hn, by unfold ckStep; rw [if_pos hn, h1]⟩

theorem known_next (s h p j q e k : Int) (hc : ckOk p q e = true) (he : e < 1000000000) (hk : 0 ≤ k ∧ k ≤ 7) : ckKnown s h p j q (e + 1) (ckOf s h p j q e k) = true ∧ ckStep s h p j q (e + 1) (ckOf s h p j q e k) = k := by
  obtain ⟨h1, h2⟩ := ckOf_parts s h p j q e k hc hk
  have h0 := ckOk_in hc
  have hn : ckKnown s h p j q (e + 1) (ckOf s h p j q e k) = true := by
    unfold ckKnown
    rw [h1, ckOk_other hc (e' := e + 1) (by omega), show e + 1 - 1 = e by omega]
    have : 0 < e + 1 := by omega
    simp [this]
  exact ⟨hn, by unfold ckStep; rw [if_pos hn, h1]⟩

theorem not_late (s h p j q e k d : Int) (hc : ckOk p q e = true) (hk : 0 ≤ k ∧ k ≤ 7) (hd : 2 ≤ d ∧ d ≤ 30) : ckKnown s h p j q (e + d) (ckOf s h p j q e k) = false ∧ ckStep s h p j q (e + d) (ckOf s h p j q e k) = 0 := by
  obtain ⟨h1, h2⟩ := ckOf_parts s h p j q e k hc hk
  have h0 := ckOk_in hc
  have hn : ckKnown s h p j q (e + d) (ckOf s h p j q e k) = false := by
    unfold ckKnown
    rw [h1]
    cases hc2 : ckOk p q (e + d) with
    | false => rfl
    | true =>
      have h3 := ckOk_in hc2
      have a := (ckOf_parts s h p j q (e + d) k hc2 hk).2
      have b := (ckOf_parts s h p j q (e + d - 1) k (ckOk_other hc (by omega)) hk).2
      have na : ¬ ckOf s h p j q (e + d) k = ckOf s h p j q e k := fun x => by
        rw [x, h2] at a
        omega
      have nb : ¬ ckOf s h p j q (e + d - 1) k = ckOf s h p j q e k := fun x => by
        rw [x, h2] at b
        omega
      simp [na, nb]
  exact ⟨hn, by unfold ckStep; rw [hn]; rfl⟩

theorem step_back (k : Int) (h : 0 ≤ k ∧ k ≤ 7) : stepTo (mssOf k) 8 = k := by
  rcases mss_cases h.1 h.2 with rfl | rfl | rfl | rfl | rfl | rfl | rfl | rfl <;> decide
end Go.Proofs.YtjilpicpfddbfaaDoor
