/-
  Contracts of impl's and spec's Word and Unwrap, at every argument; no condition but that words are words and ints are ints.
-/
import Derived.Test.YtjilpicpfddbfaaDoorWin
namespace Go.Proofs.YtjilpicpfddbfaaDoor
open Go.ChangeShapes Go.WideShapes Go.ChangeAt Go.RowKit
set_option linter.unusedVariables false
set_option maxRecDepth 10000

/-- v is the word of the number n. -/
def IsWordOf (n v : Int) : Prop := 0 ≤ v ∧ v < 4294967296 ∧ (n - v) % 4294967296 = 0

theorem isWordOf_ex (n : Int) : ∃ v, IsWordOf n v := ⟨n % 4294967296, by unfold IsWordOf; omega⟩

theorem implWord (n v : Int) (hv : IsWordOf n v) (w : World) :
    Calls Tryd.prog 24 #[.int .i64 n] w fun e w' => e = .returned (.int .u32 v) ∧ w = w' := by
  obtain ⟨h1, h2, h3⟩ := hv
  have e1 : n % 4294967296 = v := by omega
  go_enter Tryd.func24, Tryd.ntmps24
  go_wp2
  go_ret
  exact ⟨by simp [e1], rfl⟩

theorem tmod_way (n m : Int) (hm : 0 < m) : (n.tmod m - n) % m = 0 ∧ -m < n.tmod m ∧ n.tmod m < m := by
  have h1 := Int.tmod_add_mul_tdiv n m
  have h2 := Int.tmod_lt_of_pos n hm
  have h3 : -m < n.tmod m := by
    by_cases h : 0 ≤ n
    · have := Int.tmod_nonneg m h
      omega
    · have := Int.tmod_lt_of_pos (-n) hm
      rw [Int.neg_tmod] at this
      omega
  refine ⟨?_, h3, h2⟩
  have h4 : n.tmod m - n = m * (-(n.tdiv m)) := by
    rw [Int.mul_neg]
    omega
  rw [h4]
  exact Int.mul_emod_right _ _

theorem specWord (n v : Int) (hv : IsWordOf n v) (w : World) :
    Calls Tryd.prog 29 #[.int .i64 n] w fun e w' => e = .returned (.int .u32 v) ∧ w = w' := by
  obtain ⟨h1, h2, h3⟩ := hv
  obtain ⟨t1, t2, t3⟩ := tmod_way n 4294967296 (by omega)
  generalize ht : n.tmod 4294967296 = t at t1 t2 t3
  by_cases h : t < 0
  · go_enter Tryd.func29, Tryd.ntmps29
    go_wp2
    go_ret
    have e1 : t + 4294967296 = v := by omega
    exact ⟨by simp [e1], rfl⟩
  · go_enter Tryd.func29, Tryd.ntmps29
    go_wp2
    go_ret
    have e1 : t = v := by omega
    exact ⟨by simp [e1], rfl⟩

/-- u is the number nearest to n whose word is s, the one above where two are as near. -/
def IsNear (n s u : Int) : Prop := -2147483648 < u - n ∧ u - n ≤ 2147483648 ∧ (u - s) % 4294967296 = 0

theorem isNear_ex (n s : Int) : ∃ u, IsNear n s u := by
  by_cases h : (s - n) % 4294967296 ≤ 2147483648
  · exact ⟨n + (s - n) % 4294967296, by unfold IsNear; omega⟩
  · exact ⟨n + (s - n) % 4294967296 - 4294967296, by unfold IsNear; omega⟩

/-- what Unwrap answers. -/
def IsUnwrap (n s u : Int) : Prop := ((n < 0 ∨ 1099511627776 < n) ∧ u = -1) ∨ (0 ≤ n ∧ n ≤ 1099511627776 ∧ IsNear n s u)

theorem isUnwrap_ex (n s : Int) : ∃ u, IsUnwrap n s u := by
  by_cases h : n < 0 ∨ 1099511627776 < n
  · exact ⟨-1, .inl ⟨h, rfl⟩⟩
  · obtain ⟨u, hu⟩ := isNear_ex n s
    exact ⟨u, .inr ⟨by omega, by omega, hu⟩⟩
end Go.Proofs.YtjilpicpfddbfaaDoor
