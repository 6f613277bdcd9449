/-
  Single operations of a region's list, by their laws.
-/
import Derived.Test.YtjilpicpfddbfaaDoorBig
namespace Go.Proofs.YtjilpicpfddbfaaDoor
open Go.ChangeShapes Go.WideShapes Go.ChangeAt Go.RowKit
set_option linter.unusedVariables false
set_option maxRecDepth 10000

/-- A call by its contract, at a region's list. -/
theorem call_step {ops : Array Oper} {rest : List Oper} {o : Oper} {a : Act} {w : World} {Q : Exit → Act → World → Prop} (hg : o.guard = none) (f : FuncId) (args : Array Value) (hrun : (execOp a.eval o).run Tryd.prog w = .ok (.enter f args) w)
    {R : Ending → World → Prop} (hc : Calls Tryd.prog f args w R) (h : ∀ e w', R e w' → ∃ v, e = .returned v ∧ wpList Tryd.prog ops Q rest (a.put o.dst v) w') : wpList Tryd.prog ops Q (o :: rest) a w := by
  refine wpList_plain hg fun K hK => ?_
  unfold Oper.wp
  rw [hrun, Oper.upon_enter]
  refine hc.mono fun e w'' hh => ?_
  obtain ⟨v, rfl, h'⟩ := h e w'' hh
  exact hK _ _ h'

/-- A value moved, at a region's list. -/
theorem move_step {ops : Array Oper} {rest : List Oper} {o : Oper} {a : Act} {w : World} {Q : Exit → Act → World → Prop} (hg : o.guard = none) (x : Operand) (ho : o.op = .move x)
    (h : wpList Tryd.prog ops Q rest (a.put o.dst (a.eval x)) w) : wpList Tryd.prog ops Q (o :: rest) a w := by
  refine wpList_plain hg fun K hK => ?_
  unfold Oper.wp execOp
  simp only [ho]
  exact hK _ _ h

/-- An operation that yields a value, by its run. -/
theorem step_val {ops : Array Oper} {rest : List Oper} {o : Oper} {a : Act} {w w' : World} {Q : Exit → Act → World → Prop} (hg : o.guard = none) (v : Value) (hrun : (execOp a.eval o).run Tryd.prog w = .ok (.value v) w')
    (h : wpList Tryd.prog ops Q rest (a.put o.dst v) w') : wpList Tryd.prog ops Q (o :: rest) a w := by
  refine wpList_plain hg fun K hK => ?_
  unfold Oper.wp
  rw [hrun]
  exact hK _ _ h

/-- Any operation, by what it does. -/
theorem step_does {ops : Array Oper} {rest : List Oper} {o : Oper} {a : Act} {w : World} {Q : Exit → Act → World → Prop} (hg : o.guard = none) {R : Value → World → Prop} (hd : does Tryd.prog o a w R)
    (h : ∀ v w', R v w' → wpList Tryd.prog ops Q rest (a.put o.dst v) w') : wpList Tryd.prog ops Q (o :: rest) a w := by
  refine wpList_plain hg fun K hK => ?_
  unfold does at hd
  unfold Oper.wp
  generalize (execOp a.eval o).run Tryd.prog w = r at hd
  cases r with
  | ok n w' =>
    cases n <;> simp only [doesUpon] at hd <;> simp only [Oper.upon]
    case value u => exact hK _ _ (h u w' hd)
    case skip => exact hK _ _ (h undef w' hd)
    case enter f args => exact hd.mono fun e w'' ⟨v, he, h1⟩ => by subst he; exact hK _ _ (h v w'' h1)
  | halt x w' => simp only [doesUpon] at hd

theorem text_empty {d : ByteArray} (h : ¬ d = ByteArray.empty) : (d.toList == []) = false := by
  rw [beq_eq_false_iff_ne]
  intro e
  rw [ByteArray.toList_eq] at e
  refine h ?_
  obtain ⟨⟨l⟩⟩ := d
  simp at e
  subst e
  rfl
end Go.Proofs.YtjilpicpfddbfaaDoor
