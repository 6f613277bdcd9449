/-
  Single operations of a region's list, by their laws.
-/
import Derived.Test.YtpkenhcglnognaaBig
namespace Go.Proofs.Ytpkenhcglnognaa
open Go.ChangeShapes Go.WideShapes Go.ChangeAt Go.RowKit
set_option linter.unusedVariables false
set_option maxRecDepth 10000

/-- A value moved, at a region's list. -/
theorem move_step {ops : Array Oper} {rest : List Oper} {o : Oper} {a : Act} {w : World} {Q : Exit → Act → World → Prop} (hg : o.guard = none) (x : Operand) (ho : o.op = .move x)
    (h : wpList Try.prog ops Q rest (a.put o.dst (a.eval x)) w) : wpList Try.prog ops Q (o :: rest) a w := by
  refine wpList_plain hg fun K hK => ?_
  unfold Oper.wp execOp
  simp only [ho]
  exact hK _ _ h

/-- An operation that yields a value, by its run. -/
theorem step_val {ops : Array Oper} {rest : List Oper} {o : Oper} {a : Act} {w w' : World} {Q : Exit → Act → World → Prop} (hg : o.guard = none) (v : Value) (hrun : (execOp a.eval o).run Try.prog w = .ok (.value v) w')
    (h : wpList Try.prog ops Q rest (a.put o.dst v) w') : wpList Try.prog ops Q (o :: rest) a w := by
  refine wpList_plain hg fun K hK => ?_
  unfold Oper.wp
  rw [hrun]
  exact hK _ _ h

/-- Any operation, by what it does. -/
theorem step_does {ops : Array Oper} {rest : List Oper} {o : Oper} {a : Act} {w : World} {Q : Exit → Act → World → Prop} (hg : o.guard = none) {R : Value → World → Prop} (hd : does Try.prog o a w R)
    (h : ∀ v w', R v w' → wpList Try.prog ops Q rest (a.put o.dst v) w') : wpList Try.prog ops Q (o :: rest) a w := by
  refine wpList_plain hg fun K hK => ?_
  unfold does at hd
  unfold Oper.wp
  generalize (execOp a.eval o).run Try.prog w = r at hd
  cases r with
  | ok n w' =>
    cases n <;> simp only [doesUpon] at hd <;> simp only [Oper.upon]
    case value u => exact hK _ _ (h u w' hd)
    case skip => exact hK _ _ (h undef w' hd)
    case enter f args => exact hd.mono fun e w'' ⟨v, he, h1⟩ => by subst he; exact hK _ _ (h v w'' h1)
  | halt x w' => simp only [doesUpon] at hd
end Go.Proofs.Ytpkenhcglnognaa
