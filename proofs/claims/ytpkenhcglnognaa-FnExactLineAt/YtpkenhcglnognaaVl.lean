/-
  A region's operations walked step by step behind a veil: what stands in the frame is held against what is said by the kernel alone.
-/
import Derived.Test.YtpkenhcglnognaaWantP
import Derived.Great.BuildSlice
namespace Go.Proofs.Ytpkenhcglnognaa
open Go.ChangeShapes Go.WideShapes Go.ChangeAt Go.RowKit
set_option linter.unusedVariables false
set_option maxRecDepth 10000

/-- A slot that holds nothing yet. -/
def U : Value := undef

/-- What a region's operations, from one of them on, must do. -/
structure VL (ops : Array Oper) (Q : Exit → Act → World → Prop) (l : List Oper) (a : Act) (w : World) : Prop where
  out : wpList Try.prog ops Q l a w

theorem vR {id : Nat} {Q : Exit → Act → World → Prop} {a : Act} {w : World} {l : List Oper} (h : VL l.toArray Q l a w) : (Code.region id l.toArray false).wp Try.prog Q a w := wp_region_lit h.out

section
variable {ops : Array Oper} {rest : List Oper} {o : Oper} {a : Act} {w : World} {Q : Exit → Act → World → Prop}

/-- The end of the region. -/
theorem vE {a : Act} (t : Array Value) (h : wpList Try.prog ops Q [] { tmps := t, defers := [] } w) (e : a = { tmps := t, defers := [] } := by kernel_rfl) : VL ops Q [] a w := by
  rw [e]
  exact ⟨h⟩

theorem vV (v : Value) (h : VL ops Q rest (a.put o.dst v) w) (hg : Region.wanted o (yielded ops a.tmps) = true := by kernel_rfl) (hrun : (execOp a.eval o).run Try.prog w = .ok (.value v) w := by kernel_rfl) : VL ops Q (o :: rest) a w := ⟨want_val hg v hrun h.out⟩

theorem vW (w' : World) (v : Value) (h : VL ops Q rest (a.put o.dst v) w') (hg : Region.wanted o (yielded ops a.tmps) = true := by kernel_rfl) (hrun : (execOp a.eval o).run Try.prog w = .ok (.value v) w' := by kernel_rfl) : VL ops Q (o :: rest) a w := ⟨want_val hg v hrun h.out⟩

theorem vS (h : VL ops Q rest (a.put o.dst undef) w) (hw : Region.wanted o (yielded ops a.tmps) = false := by kernel_rfl) : VL ops Q (o :: rest) a w := ⟨want_skip hw h.out⟩

theorem vC {f : FuncId} {args : Array Value} {R : Ending → World → Prop} (hc : Calls Try.prog f args w R) (h : ∀ e w', R e w' → ∃ v, e = .returned v ∧ VL ops Q rest (a.put o.dst v) w')
    (hg : Region.wanted o (yielded ops a.tmps) = true := by kernel_rfl) (hrun : (execOp a.eval o).run Try.prog w = .ok (.enter f args) w := by kernel_rfl) : VL ops Q (o :: rest) a w :=
  ⟨want_call hg f args hrun hc fun e w' hr => by
    obtain ⟨v, e1, h1⟩ := h e w' hr
    exact ⟨v, e1, h1.out⟩⟩

/-- A call whose contract tells the value and that what there was stands. -/
theorem vK {f : FuncId} {args : Array Value} {v : Value} (hc : Calls Try.prog f args w fun e w' => e = .returned v ∧ Since w w') (h : ∀ w', Since w w' → VL ops Q rest (a.put o.dst v) w')
    (hg : Region.wanted o (yielded ops a.tmps) = true := by kernel_rfl) (hrun : (execOp a.eval o).run Try.prog w = .ok (.enter f args) w := by kernel_rfl) : VL ops Q (o :: rest) a w :=
  ⟨want_call hg f args hrun hc fun e w' hr => ⟨v, hr.1, (h w' hr.2).out⟩⟩

theorem vD {b i : Nat} (v : Value) (hc : w.cell? ⟨b, i, none⟩ = some v) {ty : TypeId} {x : Operand} (h : VL ops Q rest (a.put o.dst v) w) (ho : o.op = .load ty x := by rfl)
    (hg : Region.wanted o (yielded ops a.tmps) = true := by kernel_rfl) (hx : a.eval x = .pointer (some ⟨b, i, none⟩) := by kernel_rfl) (ha : (isAgg ty).run Try.prog w = .ok false w := by kernel_rfl) : VL ops Q (o :: rest) a w :=
  ⟨want_cellv hg ty x ho ⟨b, i, none⟩ hx v hc ha h.out⟩

theorem vB {t : TypeId} {k b : Nat} {cs : Array Value} (T : IsBig t k) (B : Blk b w cs) (hs : cs.size = k) {x : Operand} (h : VL ops Q rest (a.put o.dst (.agg cs)) w) (ho : o.op = .load t x := by rfl)
    (hg : Region.wanted o (yielded ops a.tmps) = true := by kernel_rfl) (hx : a.eval x = .pointer (some ⟨b, 0, none⟩) := by kernel_rfl) : VL ops Q (o :: rest) a w := ⟨want_big T hs B hg x ho hx h.out⟩

theorem vP {t : TypeId} {k b : Nat} {cs : Array Value} (T : IsBig t k) (B : Blk b w cs) (i : Nat) (ps : List Value) {x : Operand} (h : VL ops Q rest (a.put o.dst (.agg ps.toArray)) w) (hk : ps.length = k := by rfl)
    (hp : (cs.toList.drop i).take ps.length = ps := by kernel_rfl) (ho : o.op = .load t x := by rfl) (hg : Region.wanted o (yielded ops a.tmps) = true := by kernel_rfl) (hx : a.eval x = .pointer (some ⟨b, i, none⟩) := by kernel_rfl) : VL ops Q (o :: rest) a w :=
  ⟨want_part B hg T x ho i hx ps hk (fun j v hj => by
    rw [← hp, List.getElem?_take] at hj
    split at hj
    · rw [List.getElem?_drop] at hj
      simpa using hj
    · exact absurd hj (by simp)) h.out⟩

/-- A struct stored whole. -/
theorem sB {t : TypeId} {k b : Nat} {cs' : Array Value} (cs : Array Value) (T : IsBig t k) (B : Blk b w cs') (hs : cs.size = k) (hs' : cs'.size = k) (h1 : cs.all (·.oneCell') = true) {x y : Operand} (h : ∀ z, Touch b w z → Blk b z cs → VL ops Q rest (a.put o.dst undef) z)
    (ho : o.op = .store t x y := by rfl) (hg : o.guard = none := by rfl) (hx : a.eval x = .pointer (some ⟨b, 0, none⟩) := by kernel_rfl) (hy : a.eval y = .agg cs := by kernel_rfl) : VL ops Q (o :: rest) a w :=
  ⟨store_big T hs hs' h1 B hg x y ho hx hy fun z t B => (h z t B).out⟩

/-- One cell stored. -/
theorem sC {b : Nat} {cs : Array Value} (cs' : Array Value) (B : Blk b w cs) (i : Nat) (v : Value) {n : Nat} (hn : cs.size = n) {ty : TypeId} {x y : Operand} (h : ∀ z, Touch b w z → Blk b z cs' → VL ops Q rest (a.put o.dst undef) z) (ho : o.op = .store ty x y := by rfl) (hg : o.guard = none := by rfl)
    (hx : a.eval x = .pointer (some ⟨b, i, none⟩) := by kernel_rfl) (hy : a.eval y = v := by kernel_rfl) (hv : v.oneCell' = true := by rfl) (hs : (Try.prog.info? ty).map (·.size) = some 1 := by kernel_rfl) (hi : decide (i < n) = true := by rfl) (hcs : cs.setIfInBounds i v = cs' := by kernel_rfl) : VL ops Q (o :: rest) a w :=
  ⟨store_cell B hg ty x y ho i hx v hy hv hs (by rw [hn]; exact of_decide_eq_true hi) hcs fun z t B => (h z t B).out⟩

/-- A part stored. -/
theorem sP {b : Nat} {cs : Array Value} (cs' : Array Value) {t : TypeId} {k : Nat} (T : IsBig t k) (B : Blk b w cs) (i : Nat) (ps : Array Value) {n : Nat} (hn : cs.size = n) (h1 : ps.all (·.oneCell') = true) {x y : Operand} (h : ∀ z, Touch b w z → Blk b z cs' → VL ops Q rest (a.put o.dst undef) z) (ho : o.op = .store t x y := by rfl) (hg : o.guard = none := by rfl)
    (hx : a.eval x = .pointer (some ⟨b, i, none⟩) := by kernel_rfl) (hy : a.eval y = .agg ps := by kernel_rfl) (hk : ps.size = k := by rfl) (hi : decide (i + k ≤ n) = true := by rfl) (hcs : setMany cs i ps.toList = cs' := by kernel_rfl) : VL ops Q (o :: rest) a w :=
  ⟨store_part B hg T x y ho i hx ps hy hk h1 (by rw [hn]; exact of_decide_eq_true hi) hcs fun z t B => (h z t B).out⟩
end
end Go.Proofs.Ytpkenhcglnognaa
