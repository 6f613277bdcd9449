/-
  A cookie: its answer as a plain function of numbers; contracts of what asks whether there is one, and of spec's and impl's Cookie.
-/
import Derived.Test.YtjilpicpfddbfaaDoorMix15
import Derived.Test.YtjilpicpfddbfaaDoorAd15
import Derived.Test.YtjilpicpfddbfaaDoorWord
import Derived.Test.YtjilpicpfddbfaaDoorDrawn
namespace Go.Proofs.YtjilpicpfddbfaaDoor
open Go.ChangeShapes Go.WideShapes Go.ChangeAt Go.RowKit Go.Deep
set_option linter.unusedVariables false
set_option maxRecDepth 10000

/-- Whether there are cookies for two ports and an epoch. -/
def ckOk (p q e : Int) : Bool := decide (0 ≤ p ∧ p ≤ 65535) && decide (0 ≤ q ∧ q ≤ 65535) && decide (0 ≤ e ∧ e ≤ 1000000000)

/-- What is mixed for a cookie. -/
def ckMix (s h p j q e k : Int) : Int := mixOf s [h, p, j, q, e, k]

/-- A cookie. -/
def ckOf (s h p j q e k : Int) : Int := if ckOk p q e && decide (0 ≤ k ∧ k ≤ 7) then e % 32 * 134217728 + k * 16777216 + ckMix s h p j q e k % 16777216 else 0

theorem isTickC (x : Int) (w : World) :
    Calls Tryd.prog 34 #[.int .i64 x] w fun e w' => e = .returned (.bool (decide (0 ≤ x ∧ x ≤ 1000000000))) ∧ w = w' := by
  by_cases h1 : 0 ≤ x
  · have e1 : decide (0 ≤ x ∧ x ≤ 1000000000) = decide (x ≤ 1000000000) := by simp [h1]
    rw [e1]
    clear e1
    go_enter Tryd.func34, Tryd.ntmps34
    go_wp2
    go_ret
    exact ⟨rfl, rfl⟩
  · have e1 : decide (0 ≤ x ∧ x ≤ 1000000000) = false := by simp [h1]
    rw [e1]
    clear e1
    go_enter Tryd.func34, Tryd.ntmps34
    go_wp2
    go_ret
    exact ⟨rfl, rfl⟩

theorem isStepC (x : Int) (w : World) :
    Calls Tryd.prog 23 #[.int .i64 x] w fun e w' => e = .returned (.bool (decide (0 ≤ x ∧ x ≤ 7))) ∧ w = w' := by
  by_cases h1 : 0 ≤ x
  · have e1 : decide (0 ≤ x ∧ x ≤ 7) = decide (x < 8) := by simp [h1]; omega
    rw [e1]
    clear e1
    go_enter Tryd.func23, Tryd.ntmps23
    go_wp2
    go_ret
    exact ⟨rfl, rfl⟩
  · have e1 : decide (0 ≤ x ∧ x ≤ 7) = false := by simp [h1]
    rw [e1]
    clear e1
    go_enter Tryd.func23, Tryd.ntmps23
    go_wp2
    go_ret
    exact ⟨rfl, rfl⟩

theorem hasCookies (h p j q e : Int) (w : World) :
    Calls Tryd.prog 22 #[addrVal h p, addrVal j q, .int .i64 e] w fun f w' => f = .returned (.bool (ckOk p q e)) ∧ Since w w' := by
  have h1 := fun wx => isHalf p wx
  have h2 := fun wx => isHalf q wx
  have h3 := fun wx => isTickC e wx
  unfold ckOk addrVal
  generalize decide (0 ≤ e ∧ e ≤ 1000000000) = t at h3 ⊢
  generalize decide (0 ≤ p ∧ p ≤ 65535) = a at h1 ⊢
  generalize decide (0 ≤ q ∧ q ≤ 65535) = b at h2 ⊢
  have S0 : Since w ((w.alloc (.cells #[.int .u32 h, .int .i64 p] 26)).alloc (.cells #[.int .u32 j, .int .i64 q] 26)) := ((Since.refl _).alloc _).alloc _
  cases a <;> cases b <;> cases t <;> (go_enter Tryd.func22, Tryd.ntmps22; go_wp2_with (first | (go_at_call 33; first | (refine (h1 _).mono ?_; rintro _ _ ⟨rfl, rfl⟩; clear h1) | (refine (h2 _).mono ?_; rintro _ _ ⟨rfl, rfl⟩)) | (go_at_call 34; refine (h3 _).mono ?_; rintro _ _ ⟨rfl, rfl⟩)); go_ret; exact ⟨rfl, S0⟩)

theorem l15Ok (h p j q e : Int) (w : World) :
    Calls Tryd.prog 26 #[addrVal h p, addrVal j q, .int .i64 e] w fun f w' => f = .returned (.bool (ckOk p q e)) ∧ Since w w' := by
  have h1 := fun wx => specIn p 0 65535 wx
  have h2 := fun wx => specIn q 0 65535 wx
  have h3 := fun wx => specIn e 0 1000000000 wx
  unfold ckOk addrVal
  generalize decide (0 ≤ e ∧ e ≤ 1000000000) = t at h3 ⊢
  generalize decide (0 ≤ p ∧ p ≤ 65535) = a at h1 ⊢
  generalize decide (0 ≤ q ∧ q ≤ 65535) = b at h2 ⊢
  have S0 : Since w ((w.alloc (.cells #[.int .u32 h, .int .i64 p] 26)).alloc (.cells #[.int .u32 j, .int .i64 q] 26)) := ((Since.refl _).alloc _).alloc _
  cases a <;> cases b <;> cases t <;> (go_enter Tryd.func26, Tryd.ntmps26; go_wp2_with (go_at_call 27; first | (refine (h3 _).mono ?_; rintro _ _ ⟨rfl, rfl⟩; clear h3) | (refine (h1 _).mono ?_; rintro _ _ ⟨rfl, rfl⟩; clear h1) | (refine (h2 _).mono ?_; rintro _ _ ⟨rfl, rfl⟩)); go_ret; exact ⟨rfl, S0⟩)
end Go.Proofs.YtjilpicpfddbfaaDoor
