/-
  An answer that keeps nothing, and who comes back with it: what they are as plain functions; addresses as blocks; whether a segment goes on with a line.
-/
import Derived.Test.YtjilpicpfddbfabDoorCc15
import Derived.Test.YtjilpicpfddbfabDoorMss15
import Derived.Test.YtjilpicpfddbfabDoorFit
import Derived.Test.YtjilpicpfddbfabDoorVl
namespace Go.Proofs.YtjilpicpfddbfabDoor
open Go.ChangeShapes Go.WideShapes Go.ChangeAt Go.RowKit Go.Deep
set_option linter.unusedVariables false
set_option maxRecDepth 10000

theorem ad_big : IsBig 31 2 := ⟨⟨_, Tryd.underlying31, rfl⟩, by kernel_rfl⟩

theorem lad_big : IsBig 24 2 := ⟨⟨_, Tryd.underlying24, rfl⟩, by kernel_rfl⟩

theorem does_valT {op : Oper} {a : Act} {w : World} {R : Value → World → Prop} (v : Value) (w' : World) (h : (execOp a.eval op).run Tryd.prog w = .ok (.value v) w') (k : R v w') : does Tryd.prog op a w R := by
  unfold does
  rw [h]
  exact k

/-- Whether a segment goes on with a line. -/
def goesOn (s : Sg) : Bool := decide (0 ≤ s.fl ∧ s.fl ≤ 31) && hasF s.fl 16 && !(hasF s.fl 2 || hasF s.fl 4)

theorem and_six : ∀ n : Fin 32, (bits .and .i64 (n.val : Int) 6 == 0) = !(hasF (n.val : Int) 2 || hasF (n.val : Int) 4) := by decide +kernel

theorem has6 (fl : Int) (h0 : 0 ≤ fl) (h1 : fl ≤ 31) (w : World) :
    Calls Tryd.prog 48 #[.int .i64 fl, .int .i64 6] w fun e w' => e = .returned (.bool (hasF fl 2 || hasF fl 4)) ∧ w = w' := by
  have e := and_six ⟨fl.toNat, by omega⟩
  rw [show (((⟨fl.toNat, by omega⟩ : Fin 32).val : Nat) : Int) = fl from Int.toNat_of_nonneg h0] at e
  generalize (hasF fl 2 || hasF fl 4) = r at e ⊢
  go_enter Tryd.func48, Tryd.ntmps48
  go_wp2
  go_ret
  refine ⟨?_, rfl⟩
  simp [bne, e]

theorem isWithin31 (n : Int) (w : World) :
    Calls Tryd.prog 47 #[.int .i64 n, .int .i64 31] w fun e w' => e = .returned (.bool (decide (0 ≤ n ∧ n ≤ 31))) ∧ w = w' := by
  by_cases h1 : 0 ≤ n
  · have e1 : decide (0 ≤ n ∧ n ≤ 31) = decide (n ≤ 31) := by simp [h1]
    rw [e1]
    clear e1
    go_enter Tryd.func47, Tryd.ntmps47
    go_wp2
    go_ret
    exact ⟨rfl, rfl⟩
  · have e1 : decide (0 ≤ n ∧ n ≤ 31) = false := by simp [h1]
    rw [e1]
    clear e1
    go_enter Tryd.func47, Tryd.ntmps47
    go_wp2
    go_ret
    exact ⟨rfl, rfl⟩

theorem isGoingOn (s : Sg) (hf : IsInt s.fl) (w : World) :
    Calls Tryd.prog 28 #[.agg (sgCells s)] w fun e w' => e = .returned (.bool (goesOn s)) ∧ Since w w' := by
  have h1 := fun wx => isWithin31 s.fl wx
  have h2 := fun wx => hasFlag s.fl 16 hf (by unfold IsFlag; omega) wx
  unfold goesOn
  have G := (Since.refl w).alloc (.cells (sgCells s) 28)
  unfold sgCells at *
  by_cases hr : 0 ≤ s.fl ∧ s.fl ≤ 31
  · have h3 := fun wx => has6 s.fl hr.1 hr.2 wx
    rw [show decide (0 ≤ s.fl ∧ s.fl ≤ 31) = true from decide_eq_true hr] at h1 ⊢
    generalize hasF s.fl 16 = b at h2 ⊢
    generalize (hasF s.fl 2 || hasF s.fl 4) = c at h3 ⊢
    cases b <;> cases c <;> (go_enter Tryd.func28, Tryd.ntmps28; go_wp2_with (first | (go_at_call 47; refine (h1 _).mono ?_; rintro _ _ ⟨rfl, rfl⟩) | (go_at_call_of 48 (Value.int IntKind.i64 16); refine (h2 _).mono ?_; rintro _ _ ⟨rfl, rfl⟩) | (go_at_call_of 48 (Value.int IntKind.i64 6); refine (h3 _).mono ?_; rintro _ _ ⟨rfl, rfl⟩)); go_ret; exact ⟨rfl, G⟩)
  · rw [show decide (0 ≤ s.fl ∧ s.fl ≤ 31) = false from decide_eq_false hr] at h1 ⊢
    go_enter Tryd.func28, Tryd.ntmps28
    go_wp2_with (go_at_call 47; refine (h1 _).mono ?_; rintro _ _ ⟨rfl, rfl⟩)
    go_ret
    exact ⟨rfl, G⟩
end Go.Proofs.YtjilpicpfddbfabDoor
