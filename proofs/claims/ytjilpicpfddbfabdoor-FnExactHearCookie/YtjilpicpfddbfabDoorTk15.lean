/-
  An answer that keeps nothing, and who comes back with it: what they are as plain functions; addresses as blocks; whether a segment goes on with a line.
-/
import Derived.Test.YtjilpicpfddbfabDoorCc15
import Derived.Test.YtjilpicpfddbfabDoorMss15
import Derived.Test.YtjilpicpfddbfabDoorFit
import Derived.Test.YtjilpicpfddbfabDoorVl
namespace Go.Proofs.YtjilpicpfddbfabDoor
open Go.ChangeShapes Go.WideShapes Go.ChangeAt Go.RowKit Go.Deep
set_option linter.unusedVariables false
set_option maxRecDepth 10000

theorem ad_big : IsBig 31 2 := ⟨⟨_, Tryd.underlying31, rfl⟩, by kernel_rfl⟩

theorem lad_big : IsBig 24 2 := ⟨⟨_, Tryd.underlying24, rfl⟩, by kernel_rfl⟩

theorem results_sg2 {fn : Func} {t u : Tmp} {b : Nat} {w : World} {s : Sg} (h : fn.results = #[.cell t 28, .tmp u]) (tmps : Array Value) (hp : tmps.getD t undef = .pointer (some ⟨b, 0, none⟩)) (B : Blk b w (sgCells s)) : (results fn tmps).run Tryd.prog w = .ok (.tuple #[.agg (sgCells s), tmps.getD u undef]) w := by
  have e := var_big seg_big rfl B
  have hq : tmps[t]?.getD undef = .pointer (some ⟨b, 0, none⟩) := by simpa using hp
  simp [results, h, hq, asAddr, e]

theorem does_valT {op : Oper} {a : Act} {w : World} {R : Value → World → Prop} (v : Value) (w' : World) (h : (execOp a.eval op).run Tryd.prog w = .ok (.value v) w') (k : R v w') : does Tryd.prog op a w R := by
  unfold does
  rw [h]
  exact k

/-- The answer of which nothing is kept. -/
def ansCk (x h p j q e : Int) (s : Sg) : Sg := ⟨0, 0, ckOf x h p j q e (stepTo s.ms 8), (s.sq + 1) % 4294967296, 18, 65535, 100, ⟨#[]⟩⟩

/-- What is answered. -/
def hearCk (x h p j q e : Int) (s : Sg) : Value := if ckOk p q e && askOk s then .tuple #[.agg (sgCells (ansCk x h p j q e s)), .bool true] else .tuple #[.agg (sgCells sgZero), .bool false]

theorem hearCk_no {x h p j q e : Int} {s : Sg} (hn : (ckOk p q e && askOk s) = false) : hearCk x h p j q e s = .tuple #[.agg (sgCells sgZero), .bool false] := by
  unfold hearCk
  rw [hn]
  rfl

theorem hearCk_yes {x h p j q e : Int} {s : Sg} (hn : (ckOk p q e && askOk s) = true) : hearCk x h p j q e s = .tuple #[.agg (sgCells (ansCk x h p j q e s)), .bool true] := by
  unfold hearCk
  rw [hn]
  rfl

theorem ask_plain (s : Sg) : askOk s = (decide (s.fl = 2) && decide (0 ≤ s.wn ∧ s.wn ≤ 65535) && decide (s.d = ByteArray.empty)) := by
  unfold askOk formOk
  by_cases h1 : s.fl = 2
  · by_cases h2 : s.d = ByteArray.empty
    · have : s.d.size = 0 := by rw [h2]; rfl
      simp [h1, h2]
    · simp [h1, h2]
  · simp [h1]

/-- Whether a segment goes on with a line. -/
def goesOn (s : Sg) : Bool := decide (0 ≤ s.fl ∧ s.fl ≤ 31) && hasF s.fl 16 && !(hasF s.fl 2 || hasF s.fl 4)

theorem and_six : ∀ n : Fin 32, (bits .and .i64 (n.val : Int) 6 == 0) = !(hasF (n.val : Int) 2 || hasF (n.val : Int) 4) := by decide +kernel

theorem has6 (fl : Int) (h0 : 0 ≤ fl) (h1 : fl ≤ 31) (w : World) :
    Calls Tryd.prog 48 #[.int .i64 fl, .int .i64 6] w fun e w' => e = .returned (.bool (hasF fl 2 || hasF fl 4)) ∧ w = w' := by
  have e := and_six ⟨fl.toNat, by omega⟩
  rw [show (((⟨fl.toNat, by omega⟩ : Fin 32).val : Nat) : Int) = fl from Int.toNat_of_nonneg h0] at e
  generalize (hasF fl 2 || hasF fl 4) = r at e ⊢
  go_enter Tryd.func48, Tryd.ntmps48
  go_wp2
  go_ret
  refine ⟨?_, rfl⟩
  simp [bne, e]

theorem isWithin31 (n : Int) (w : World) :
    Calls Tryd.prog 47 #[.int .i64 n, .int .i64 31] w fun e w' => e = .returned (.bool (decide (0 ≤ n ∧ n ≤ 31))) ∧ w = w' := by
  by_cases h1 : 0 ≤ n
  · have e1 : decide (0 ≤ n ∧ n ≤ 31) = decide (n ≤ 31) := by simp [h1]
    rw [e1]
    clear e1
    go_enter Tryd.func47, Tryd.ntmps47
    go_wp2
    go_ret
    exact ⟨rfl, rfl⟩
  · have e1 : decide (0 ≤ n ∧ n ≤ 31) = false := by simp [h1]
    rw [e1]
    clear e1
    go_enter Tryd.func47, Tryd.ntmps47
    go_wp2
    go_ret
    exact ⟨rfl, rfl⟩

theorem isGoingOn (s : Sg) (hf : IsInt s.fl) (w : World) :
    Calls Tryd.prog 28 #[.agg (sgCells s)] w fun e w' => e = .returned (.bool (goesOn s)) ∧ Since w w' := by
  have h1 := fun wx => isWithin31 s.fl wx
  have h2 := fun wx => hasFlag s.fl 16 hf (by unfold IsFlag; omega) wx
  unfold goesOn
  have G := (Since.refl w).alloc (.cells (sgCells s) 28)
  unfold sgCells at *
  by_cases hr : 0 ≤ s.fl ∧ s.fl ≤ 31
  · have h3 := fun wx => has6 s.fl hr.1 hr.2 wx
    rw [show decide (0 ≤ s.fl ∧ s.fl ≤ 31) = true from decide_eq_true hr] at h1 ⊢
    generalize hasF s.fl 16 = b at h2 ⊢
    generalize (hasF s.fl 2 || hasF s.fl 4) = c at h3 ⊢
    cases b <;> cases c <;> (go_enter Tryd.func28, Tryd.ntmps28; go_wp2_with (first | (go_at_call 47; refine (h1 _).mono ?_; rintro _ _ ⟨rfl, rfl⟩) | (go_at_call_of 48 (Value.int IntKind.i64 16); refine (h2 _).mono ?_; rintro _ _ ⟨rfl, rfl⟩) | (go_at_call_of 48 (Value.int IntKind.i64 6); refine (h3 _).mono ?_; rintro _ _ ⟨rfl, rfl⟩)); go_ret; exact ⟨rfl, G⟩)
  · rw [show decide (0 ≤ s.fl ∧ s.fl ≤ 31) = false from decide_eq_false hr] at h1 ⊢
    go_enter Tryd.func28, Tryd.ntmps28
    go_wp2_with (go_at_call 47; refine (h1 _).mono ?_; rintro _ _ ⟨rfl, rfl⟩)
    go_ret
    exact ⟨rfl, G⟩
end Go.Proofs.YtjilpicpfddbfabDoor
