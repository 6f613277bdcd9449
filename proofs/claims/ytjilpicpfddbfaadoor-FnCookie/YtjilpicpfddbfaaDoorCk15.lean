/-
  A cookie: its answer as a plain function of numbers; contracts of what asks whether there is one, and of spec's and impl's Cookie.
-/
import Derived.Test.YtjilpicpfddbfaaDoorMix15
import Derived.Test.YtjilpicpfddbfaaDoorAd15
import Derived.Test.YtjilpicpfddbfaaDoorWord
import Derived.Test.YtjilpicpfddbfaaDoorDrawn
import Derived.Laws.BitsAllLaws
namespace Go.Proofs.YtjilpicpfddbfaaDoor
open Go.ChangeShapes Go.WideShapes Go.ChangeAt Go.RowKit Go.Deep
set_option linter.unusedVariables false
set_option maxRecDepth 10000

/-- Whether there are cookies for two ports and an epoch. -/
def ckOk (p q e : Int) : Bool := decide (0 ≤ p ∧ p ≤ 65535) && decide (0 ≤ q ∧ q ≤ 65535) && decide (0 ≤ e ∧ e ≤ 1000000000)

/-- What is mixed for a cookie. -/
def ckMix (s h p j q e k : Int) : Int := mixOf s [h, p, j, q, e, k]

/-- A cookie. -/
def ckOf (s h p j q e k : Int) : Int := if ckOk p q e && decide (0 ≤ k ∧ k ≤ 7) then e % 32 * 134217728 + k * 16777216 + ckMix s h p j q e k % 16777216 else 0

theorem isTickC (x : Int) (w : World) :
    Calls Tryd.prog 34 #[.int .i64 x] w fun e w' => e = .returned (.bool (decide (0 ≤ x ∧ x ≤ 1000000000))) ∧ w = w' := by
  by_cases h1 : 0 ≤ x
  · have e1 : decide (0 ≤ x ∧ x ≤ 1000000000) = decide (x ≤ 1000000000) := by simp [h1]
    rw [e1]
    clear e1
    go_enter Tryd.func34, Tryd.ntmps34
    go_wp2
    go_ret
    exact ⟨rfl, rfl⟩
  · have e1 : decide (0 ≤ x ∧ x ≤ 1000000000) = false := by simp [h1]
    rw [e1]
    clear e1
    go_enter Tryd.func34, Tryd.ntmps34
    go_wp2
    go_ret
    exact ⟨rfl, rfl⟩

theorem isStepC (x : Int) (w : World) :
    Calls Tryd.prog 23 #[.int .i64 x] w fun e w' => e = .returned (.bool (decide (0 ≤ x ∧ x ≤ 7))) ∧ w = w' := by
  by_cases h1 : 0 ≤ x
  · have e1 : decide (0 ≤ x ∧ x ≤ 7) = decide (x < 8) := by simp [h1]; omega
    rw [e1]
    clear e1
    go_enter Tryd.func23, Tryd.ntmps23
    go_wp2
    go_ret
    exact ⟨rfl, rfl⟩
  · have e1 : decide (0 ≤ x ∧ x ≤ 7) = false := by simp [h1]
    rw [e1]
    clear e1
    go_enter Tryd.func23, Tryd.ntmps23
    go_wp2
    go_ret
    exact ⟨rfl, rfl⟩

theorem hasCookies (h p j q e : Int) (w : World) :
    Calls Tryd.prog 22 #[addrVal h p, addrVal j q, .int .i64 e] w fun f w' => f = .returned (.bool (ckOk p q e)) ∧ Since w w' := by
  have h1 := fun wx => isHalf p wx
  have h2 := fun wx => isHalf q wx
  have h3 := fun wx => isTickC e wx
  unfold ckOk addrVal
  generalize decide (0 ≤ e ∧ e ≤ 1000000000) = t at h3 ⊢
  generalize decide (0 ≤ p ∧ p ≤ 65535) = a at h1 ⊢
  generalize decide (0 ≤ q ∧ q ≤ 65535) = b at h2 ⊢
  have S0 : Since w ((w.alloc (.cells #[.int .u32 h, .int .i64 p] 26)).alloc (.cells #[.int .u32 j, .int .i64 q] 26)) := ((Since.refl _).alloc _).alloc _
  cases a <;> cases b <;> cases t <;> (go_enter Tryd.func22, Tryd.ntmps22; go_wp2_with (first | (go_at_call 33; first | (refine (h1 _).mono ?_; rintro _ _ ⟨rfl, rfl⟩; clear h1) | (refine (h2 _).mono ?_; rintro _ _ ⟨rfl, rfl⟩)) | (go_at_call 34; refine (h3 _).mono ?_; rintro _ _ ⟨rfl, rfl⟩)); go_ret; exact ⟨rfl, S0⟩)

theorem l15Ok (h p j q e : Int) (w : World) :
    Calls Tryd.prog 26 #[addrVal h p, addrVal j q, .int .i64 e] w fun f w' => f = .returned (.bool (ckOk p q e)) ∧ Since w w' := by
  have h1 := fun wx => specIn p 0 65535 wx
  have h2 := fun wx => specIn q 0 65535 wx
  have h3 := fun wx => specIn e 0 1000000000 wx
  unfold ckOk addrVal
  generalize decide (0 ≤ e ∧ e ≤ 1000000000) = t at h3 ⊢
  generalize decide (0 ≤ p ∧ p ≤ 65535) = a at h1 ⊢
  generalize decide (0 ≤ q ∧ q ≤ 65535) = b at h2 ⊢
  have S0 : Since w ((w.alloc (.cells #[.int .u32 h, .int .i64 p] 26)).alloc (.cells #[.int .u32 j, .int .i64 q] 26)) := ((Since.refl _).alloc _).alloc _
  cases a <;> cases b <;> cases t <;> (go_enter Tryd.func26, Tryd.ntmps26; go_wp2_with (go_at_call 27; first | (refine (h3 _).mono ?_; rintro _ _ ⟨rfl, rfl⟩; clear h3) | (refine (h1 _).mono ?_; rintro _ _ ⟨rfl, rfl⟩; clear h1) | (refine (h2 _).mono ?_; rintro _ _ ⟨rfl, rfl⟩)); go_ret; exact ⟨rfl, S0⟩)
theorem mixStep_range (h x : Int) : 0 ≤ mixStep h x ∧ mixStep h x < 4294967296 := by
  unfold mixStep
  generalize IntKind.u32.wrap (bits .xor .u32 h x * 2654435761) = y
  unfold bits
  simp only [IntKind.wrap_u32]
  omega

theorem mixOf_range : ∀ (xs : List Int) (h : Int), xs ≠ [] → 0 ≤ mixOf h xs ∧ mixOf h xs < 4294967296
  | [], _, h => absurd rfl h
  | [x], h, _ => by
    have := mixStep_range h x
    simpa only [mixOf, List.foldl] using this
  | x :: y :: xs, h, _ => by
    have := mixOf_range (y :: xs) (mixStep h x) (by simp)
    simpa only [mixOf, List.foldl] using this

theorem ckMix_range (s h p j q e k : Int) : 0 ≤ ckMix s h p j q e k ∧ ckMix s h p j q e k < 4294967296 := mixOf_range _ _ (by simp)

theorem low24 (x : Int) (h0 : 0 ≤ x) (h1 : x < 4294967296) : bits .and .u32 x 16777215 = x % 16777216 := by
  rw [u32_and x 16777215 h0 h1 (by omega) (by omega)]
  have := Nat.and_two_pow_sub_one_eq_mod x.toNat 24
  rw [show (16777215 : Int).toNat = 2 ^ 24 - 1 from rfl, this]
  omega

theorem parts3 (m k x : Int) (hm : 0 ≤ m ∧ m < 32) (hk : 0 ≤ k ∧ k ≤ 7) (hx : 0 ≤ x ∧ x < 16777216) :
    bits .or .u32 (bits .or .u32 (m * 134217728) (k * 16777216)) x = m * 134217728 + k * 16777216 + x := by
  have e1 : bits .or .u32 (m * 134217728) (k * 16777216) = m * 134217728 + k * 16777216 := by
    rw [u32_or _ _ (by omega) (by omega) (by omega) (by omega)]
    have := Nat.two_pow_add_eq_or_of_lt (i := 27) (b := (k * 16777216).toNat) (by omega) m.toNat
    rw [show (m * 134217728).toNat = 2 ^ 27 * m.toNat by omega, ← this]
    omega
  rw [e1, u32_or _ _ (by omega) (by omega) (by omega) (by omega)]
  have := Nat.two_pow_add_eq_or_of_lt (i := 24) (b := x.toNat) (by omega) (m * 8 + k).toNat
  rw [show (m * 134217728 + k * 16777216).toNat = 2 ^ 24 * (m * 8 + k).toNat by omega, ← this]
  omega

/-- Six words as a list's value. -/
def RowU (l : List Int) (x : World) (v : Value) : Prop := ∃ g, v = .slice (some ⟨g, 0, none⟩) l.length l.length ∧ Rd shU x (some ⟨g, 0, none⟩) l.length l

theorem RowU.since {l : List Int} {x x' : World} {v : Value} (h : RowU l x v) (k : Since x x') : RowU l x' v := by
  obtain ⟨g, e, R⟩ := h
  exact ⟨g, e, R.since k⟩

theorem run_build6 (a b c d e f : Int) (w : World) : (Instr.buildSlice 48 6 #[(0, .int .u32 a), (1, .int .u32 b), (2, .int .u32 c), (3, .int .u32 d), (4, .int .u32 e), (5, .int .u32 f)]).run Tryd.prog w = .ok (.slice (some ⟨w.heap.size, 0, none⟩) 6 6) (w.alloc (.cells #[.int .u32 a, .int .u32 b, .int .u32 c, .int .u32 d, .int .u32 e, .int .u32 f] 24)) := by kernel_rfl

theorem row6 (a b c d e f : Int) (w : World) : RowU [a, b, c, d, e, f] (w.alloc (.cells #[.int .u32 a, .int .u32 b, .int .u32 c, .int .u32 d, .int .u32 e, .int .u32 f] 24)) (.slice (some ⟨w.heap.size, 0, none⟩) 6 6) := by
  refine ⟨w.heap.size, rfl, rfl, ?_, fun i hi => ⟨_, rfl, by simp, fun j hj => ?_⟩⟩
  · show 6 ≤ maxLen
    unfold maxLen
    omega
  · have hj0 : j = 0 := by
      have : j < 1 := hj
      omega
    subst hj0
    have hi' : i < 6 := hi
    have k : ∀ i : Nat, (w.alloc (.cells #[.int .u32 a, .int .u32 b, .int .u32 c, .int .u32 d, .int .u32 e, .int .u32 f] 24)).cell? ⟨w.heap.size, i, none⟩ = #[(.int .u32 a : Value), .int .u32 b, .int .u32 c, .int .u32 d, .int .u32 e, .int .u32 f][i]? := fun i => World.cell?_alloc_mark w _ _ _ i
    match i, hi' with
    | 0, _ => exact k 0
    | 1, _ => exact k 1
    | 2, _ => exact k 2
    | 3, _ => exact k 3
    | 4, _ => exact k 4
    | 5, _ => exact k 5
end Go.Proofs.YtjilpicpfddbfaaDoor
