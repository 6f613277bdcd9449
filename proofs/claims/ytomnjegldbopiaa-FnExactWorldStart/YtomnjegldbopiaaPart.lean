/-
  Parts of a great struct read and stored, at a region's list.
-/
import Derived.Test.YtomnjegldbopiaaWant
namespace Go.Proofs.Ytomnjegldbopiaa
open Go.ChangeShapes Go.WideShapes Go.ChangeAt Go.RowKit
set_option linter.unusedVariables false
set_option maxRecDepth 10000

theorem run_storeOne {b i : Nat} {w : World} {cs : Array Value} {ty : TypeId} {v : Value} (hv : v.oneCell' = true) (hs : (Try.prog.info? ty).map (·.size) = some 1) (B : Blk b w cs) (hi : i < cs.size) :
    (storeVar ty ⟨b, i, none⟩ v).run Try.prog w = .ok () (w.setCell ⟨b, i, none⟩ v) := by
  have hc : w.cell? ⟨b, i, none⟩ = some cs[i] := by rw [B.cell i]; simp [hi]
  have hf := B.fz i
  cases hq : Try.prog.info? ty with
  | none => simp [hq] at hs
  | some inf =>
    have h1 : inf.size = 1 := by simpa [hq] using hs
    have hcs : Value.cells v = #[v] := by cases v <;> first | rfl | (simp [Value.oneCell'] at hv)
    simp [storeVar, sizeOf, typeInfo, hq, h1, hcs, storeCells, Addr.add, run_store _ _ _ _ _ hv, hc, hf]

/-- One cell stored. -/
theorem store_cell {ops : Array Oper} {rest : List Oper} {o : Oper} {a : Act} {w : World} {Q : Exit → Act → World → Prop} {b : Nat} {cs cs' : Array Value} (B : Blk b w cs) (hg : o.guard = none) (ty : TypeId) (x y : Operand) (ho : o.op = .store ty x y) (i : Nat) (hx : a.eval x = .pointer (some ⟨b, i, none⟩)) (v : Value) (hy : a.eval y = v)
    (hv : v.oneCell' = true) (hs : (Try.prog.info? ty).map (·.size) = some 1) (hi : i < cs.size) (hcs : cs.setIfInBounds i v = cs') (h : ∀ z, Touch b w z → Blk b z cs' → wpList Try.prog ops Q rest (a.put o.dst undef) z) : wpList Try.prog ops Q (o :: rest) a w := by
  have e := run_storeOne (ty := ty) hv hs B hi
  refine step_does hg (R := fun u z => u = undef ∧ z = w.setCell ⟨b, i, none⟩ v) ?_ ?_
  · unfold does execOp
    simp only [ho, hx, hy, Instr.storeAt, Instr.sureAddr, Sem.run_bind, Sem.run_pure, Result.andThen_ok, e]
    exact ⟨rfl, rfl⟩
  · rintro _ _ ⟨rfl, rfl⟩
    exact h _ ((Touch.refl b w).put i v) (by rw [← hcs]; exact B.put i v hi)

/-- A part read. -/
theorem load_part {ops : Array Oper} {rest : List Oper} {o : Oper} {a : Act} {w : World} {Q : Exit → Act → World → Prop} {b : Nat} {cs : Array Value} (B : Blk b w cs) (hg : o.guard = none) {t : TypeId} {k : Nat} (T : IsBig t k) (x : Operand) (ho : o.op = .load t x) (i : Nat) (hx : a.eval x = .pointer (some ⟨b, i, none⟩))
    (ps : List Value) (hk : ps.length = k) (hp : ∀ j v, ps[j]? = some v → cs[i + j]? = some v) (h : wpList Try.prog ops Q rest (a.put o.dst (.agg ps.toArray)) w) : wpList Try.prog ops Q (o :: rest) a w := by
  obtain ⟨d, h1, h2⟩ := T.row
  exact wpList_load_mid hg t x ho b i hx ps d (fun j v hv => by rw [B.cell]; exact hp j v hv) h1 h2 (by rw [T.size, hk]) h
end Go.Proofs.Ytomnjegldbopiaa
