/-
  Texts put together, cut and held against the empty one, behind the veil.
-/
import Derived.Test.YtipaaddjpmlajaaGreatVl
namespace Go.Proofs.YtipaaddjpmlajaaGreat
open Go.ChangeShapes Go.WideShapes Go.ChangeAt Go.RowKit
set_option linter.unusedVariables false
set_option maxRecDepth 10000

section
variable {ops : Array Oper} {rest : List Oper} {o : Oper} {a : Act} {w : World} {Q : Exit → Act → World → Prop}

theorem vAdd (A B : ByteArray) (hz : A.size + B.size ≤ 9223372036854775807) {x y : Operand} {T' : TypeId} (h : VL ops Q rest (a.put o.dst (.string (A ++ B))) w) (ho : o.op = .binOp .add 9 x y T' := by rfl)
    (hg : Region.wanted o (yielded ops a.tmps) = true := by kernel_rfl) (hx : a.eval x = .string A := by kernel_rfl) (hy : a.eval y = .string B := by kernel_rfl) : VL ops Q (o :: rest) a w :=
  ⟨want_val hg _ (by
    have e := run_string_add_sum (P := Tryz.prog) w A B hz
    unfold execOp
    simp only [ho, hx, hy]
    simp [go_sem, e]) h.out⟩

theorem vCut (A : ByteArray) (n : Nat) (hn : n ≤ A.size) (hm : A.size ≤ 9223372036854775807) {x y : Operand} (h : VL ops Q rest (a.put o.dst (.string (A.extract n A.size))) w) (ho : o.op = .slice 9 x (some y) none none := by rfl)
    (hg : Region.wanted o (yielded ops a.tmps) = true := by kernel_rfl) (hx : a.eval x = .string A := by kernel_rfl) (hy : a.eval y = .int .i64 (n : Int) := by kernel_rfl) : VL ops Q (o :: rest) a w :=
  ⟨want_val hg _ (by
    unfold execOp
    simp only [ho, hx, hy, Option.map_some, Option.map_none]
    simp [go_sem, hn]) h.out⟩

theorem vEmp (A : ByteArray) (b : Bool) (hb : (A.toList == []) = b) {x : Operand} {T' : TypeId} (h : VL ops Q rest (a.put o.dst (.bool b)) w) (ho : o.op = .binOp .eql 9 x (.const (.string ⟨#[]⟩)) T' := by rfl)
    (hg : Region.wanted o (yielded ops a.tmps) = true := by kernel_rfl) (hx : a.eval x = .string A := by kernel_rfl) : VL ops Q (o :: rest) a w :=
  ⟨want_val hg _ (by
    unfold execOp
    have hc : a.eval (.const (.string ⟨#[]⟩)) = .string ⟨#[]⟩ := rfl
    simp only [ho, hx, hc]
    simp [go_sem, hb]) h.out⟩

end
end Go.Proofs.YtipaaddjpmlajaaGreat
