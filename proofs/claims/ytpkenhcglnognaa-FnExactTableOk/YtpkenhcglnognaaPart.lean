/-
  Parts of a great struct read and stored, at a region's list.
-/
import Derived.Test.YtpkenhcglnognaaWant
namespace Go.Proofs.Ytpkenhcglnognaa
open Go.ChangeShapes Go.WideShapes Go.ChangeAt Go.RowKit
set_option linter.unusedVariables false
set_option maxRecDepth 10000

theorem run_storeOne {b i : Nat} {w : World} {cs : Array Value} {ty : TypeId} {v : Value} (hv : v.oneCell' = true) (hs : (Try.prog.info? ty).map (·.size) = some 1) (B : Blk b w cs) (hi : i < cs.size) :
    (storeVar ty ⟨b, i, none⟩ v).run Try.prog w = .ok () (w.setCell ⟨b, i, none⟩ v) := by
  have hc : w.cell? ⟨b, i, none⟩ = some cs[i] := by rw [B.cell i]; simp [hi]
  have hf := B.fz i
  cases hq : Try.prog.info? ty with
  | none => simp [hq] at hs
  | some inf =>
    have h1 : inf.size = 1 := by simpa [hq] using hs
    have hcs : Value.cells v = #[v] := by cases v <;> first | rfl | (simp [Value.oneCell'] at hv)
    simp [storeVar, sizeOf, typeInfo, hq, h1, hcs, storeCells, Addr.add, run_store _ _ _ _ _ hv, hc, hf]

/-- One cell stored. -/
theorem store_cell {ops : Array Oper} {rest : List Oper} {o : Oper} {a : Act} {w : World} {Q : Exit → Act → World → Prop} {b : Nat} {cs cs' : Array Value} (B : Blk b w cs) (hg : o.guard = none) (ty : TypeId) (x y : Operand) (ho : o.op = .store ty x y) (i : Nat) (hx : a.eval x = .pointer (some ⟨b, i, none⟩)) (v : Value) (hy : a.eval y = v)
    (hv : v.oneCell' = true) (hs : (Try.prog.info? ty).map (·.size) = some 1) (hi : i < cs.size) (hcs : cs.setIfInBounds i v = cs') (h : ∀ z, Touch b w z → Blk b z cs' → wpList Try.prog ops Q rest (a.put o.dst undef) z) : wpList Try.prog ops Q (o :: rest) a w := by
  have e := run_storeOne (ty := ty) hv hs B hi
  refine step_does hg (R := fun u z => u = undef ∧ z = w.setCell ⟨b, i, none⟩ v) ?_ ?_
  · unfold does execOp
    simp only [ho, hx, hy, Instr.storeAt, Instr.sureAddr, Sem.run_bind, Sem.run_pure, Result.andThen_ok, e]
    exact ⟨rfl, rfl⟩
  · rintro _ _ ⟨rfl, rfl⟩
    exact h _ ((Touch.refl b w).put i v) (by rw [← hcs]; exact B.put i v hi)

/-- Cells of a row, some of them made anew. -/
def setMany : Array Value → Nat → List Value → Array Value
  | cs, _, [] => cs
  | cs, o, v :: r => setMany (cs.setIfInBounds o v) (o + 1) r

theorem blk_many {b : Nat} : ∀ (vs : List Value) (o : Nat) {w : World} {cs : Array Value}, Blk b w cs → o + vs.length ≤ cs.size → Blk b (w.setCells b o vs) (setMany cs o vs)
  | [], _, _, _, B, _ => B
  | v :: r, o, w, cs, B, h => by
    rw [World.setCells, setMany]
    simp at h
    exact blk_many r (o + 1) (B.put o v (by omega)) (by simp; omega)

/-- A part stored. -/
theorem store_part {ops : Array Oper} {rest : List Oper} {o : Oper} {a : Act} {w : World} {Q : Exit → Act → World → Prop} {b : Nat} {cs cs' : Array Value} (B : Blk b w cs) (hg : o.guard = none) {t : TypeId} {k : Nat} (T : IsBig t k) (x y : Operand) (ho : o.op = .store t x y) (i : Nat) (hx : a.eval x = .pointer (some ⟨b, i, none⟩)) (ps : Array Value) (hy : a.eval y = .agg ps)
    (hk : ps.size = k) (h1 : ps.all (·.oneCell') = true) (hi : i + k ≤ cs.size) (hcs : setMany cs i ps.toList = cs') (h : ∀ z, Touch b w z → Blk b z cs' → wpList Try.prog ops Q rest (a.put o.dst undef) z) : wpList Try.prog ops Q (o :: rest) a w := by
  refine wpList_store_mid hg t x y ho b i ps hx hy ?_ (by rw [T.size, hk]) h1 (h _ (Touch.puts _ i (Touch.refl b w)) ?_)
  · intro j hj
    rw [B.cell (i + j)]
    exact ⟨by simp; omega, B.fz _⟩
  · rw [← hcs]
    exact blk_many _ _ B (by simp; omega)
end Go.Proofs.Ytpkenhcglnognaa
