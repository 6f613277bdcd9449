/-
  Regions with guards, walked step by step behind a veil (no one looks into the walk by chance).
-/
import Derived.Test.YtoadnhkbejnimaaWantP
import Derived.Great.BuildSlice
namespace Go.Proofs.Ytoadnhkbejnimaa
open Go.ChangeShapes Go.WideShapes Go.ChangeAt Go.RowKit
set_option linter.unusedVariables false
set_option maxRecDepth 10000

/-- A slot that holds nothing yet. -/
def un : Value := undef

structure LW (ops : Array Oper) (Q : Exit → Act → World → Prop) (l : List Oper) (a : Act) (w : World) : Prop where
  out : wpList Try.prog ops Q l a w

theorem lw_region {id : Nat} {Q : Exit → Act → World → Prop} {a : Act} {w : World} {l : List Oper} (h : LW l.toArray Q l a w) : (Code.region id l.toArray false).wp Try.prog Q a w := wp_region_lit h.out

section
variable {ops : Array Oper} {rest : List Oper} {o : Oper} {a : Act} {w : World} {Q : Exit → Act → World → Prop}

theorem lw_frame {l : List Oper} {a a' : Act} (e : a = a') (h : LW ops Q l a' w) : LW ops Q l a w := by
  rw [e]
  exact h

theorem lw_val {w' : World} (hg : Region.wanted o (yielded ops a.tmps) = true) (v : Value) (hrun : (execOp a.eval o).run Try.prog w = .ok (.value v) w') (h : LW ops Q rest (a.put o.dst v) w') : LW ops Q (o :: rest) a w := ⟨want_val hg v hrun h.out⟩

theorem lw_skip (hw : Region.wanted o (yielded ops a.tmps) = false) (h : LW ops Q rest (a.put o.dst undef) w) : LW ops Q (o :: rest) a w := ⟨want_skip hw h.out⟩

theorem lw_call (hg : Region.wanted o (yielded ops a.tmps) = true) (f : FuncId) (args : Array Value) (hrun : (execOp a.eval o).run Try.prog w = .ok (.enter f args) w)
    {R : Ending → World → Prop} (hc : Calls Try.prog f args w R) (h : ∀ e w', R e w' → ∃ v, e = .returned v ∧ LW ops Q rest (a.put o.dst v) w') : LW ops Q (o :: rest) a w :=
  ⟨want_call hg f args hrun hc fun e w' hr => by
    obtain ⟨v, e1, h1⟩ := h e w' hr
    exact ⟨v, e1, h1.out⟩⟩

theorem lw_cell (hg : Region.wanted o (yielded ops a.tmps) = true) (ty : TypeId) (x : Operand) (ho : o.op = .load ty x) (ad : Addr) (hx : a.eval x = .pointer (some ad)) (v : Value) (hc : w.cell? ad = some v)
    (ha : (isAgg ty).run Try.prog w = .ok false w) (h : LW ops Q rest (a.put o.dst v) w) : LW ops Q (o :: rest) a w := ⟨want_cellv hg ty x ho ad hx v hc ha h.out⟩

theorem lw_big {t : TypeId} {k b : Nat} {cs : Array Value} (T : IsBig t k) (hs : cs.size = k) (B : Blk b w cs) (hgd : Region.wanted o (yielded ops a.tmps) = true) (x : Operand) (ho : o.op = .load t x)
    (hx : a.eval x = .pointer (some ⟨b, 0, none⟩)) (h : LW ops Q rest (a.put o.dst (.agg cs)) w) : LW ops Q (o :: rest) a w := ⟨want_big T hs B hgd x ho hx h.out⟩
end
end Go.Proofs.Ytoadnhkbejnimaa
