/-
  Structs of any number of cells, read and stored as a whole: in a region's list, and operation by operation in regions that leave their order open.
-/
import Derived.Test.YtpkenhcglnognaaM1
import Derived.Test.YtpkenhcglnognaaM3
import Derived.Deep.MidRow
namespace Go.Proofs.Ytpkenhcglnognaa
open Go.ChangeShapes Go.WideShapes Go.ChangeAt Go.RowKit
set_option linter.unusedVariables false
set_option maxRecDepth 10000

/-- A type whose values are k cells. -/
structure IsBig (t : TypeId) (k : Nat) : Prop where
  row : ∃ d : TypeDesc, Try.prog.underlying t = some d ∧ d.isRow = true
  size : (Try.prog.info? t).map (·.size) = some k

theorem Blk.range {b : Nat} {w : World} {cs : Array Value} (B : Blk b w cs) : w.rangeAt b 0 cs.toList := fun j v hv => by
  rw [Nat.zero_add, B.cell j]
  simpa using hv

theorem Blk.there {b : Nat} {w : World} {cs : Array Value} (B : Blk b w cs) : w.there b 0 cs.size := fun j hj => by
  rw [Nat.zero_add, B.cell j]
  exact ⟨by simp [hj], B.fz j⟩

theorem Touch.puts {g : Nat} : ∀ (vs : List Value) (o : Nat) {x y : World}, Touch g x y → Touch g x (y.setCells g o vs)
  | [], _, _, _, h => h
  | v :: r, o, x, y, h => by
    rw [World.setCells]
    exact Touch.puts r (o + 1) (h.put o v)

theorem blk_puts {b : Nat} {w : World} {cs cs' : Array Value} (B : Blk b w cs) (hs : cs'.size = cs.size) : Blk b (w.setCells b 0 cs'.toList) cs' := by
  have t := Touch.puts (g := b) cs'.toList 0 (Touch.refl b w)
  have th : w.there b 0 cs'.toList.length := by
    have := B.there
    rw [← hs] at this
    simpa using this
  refine ⟨Nat.lt_of_lt_of_le B.lt t.size, fun i => ?_, fun i => ?_⟩
  · rw [World.frozen?_setCells]
    exact B.fz i
  · by_cases hi : i < cs'.size
    · have := World.rangeAt_setCells_same w b 0 cs'.toList th i cs'[i] (by simp [hi])
      rw [Nat.zero_add] at this
      rw [this]
      simp [hi]
    · rw [World.cell?_setCells_out b cs'.toList 0 w ⟨b, i, none⟩ (fun _ _ => by right; simp; omega), B.cell i, Array.getElem?_eq_none (by omega), Array.getElem?_eq_none (by omega)]

section
variable {t : TypeId} {k : Nat} {cs cs' : Array Value} {b : Nat} {w : World}

theorem store_big (T : IsBig t k) (hs : cs.size = k) (hs' : cs'.size = k) (h1 : cs.all (·.oneCell') = true) {ops : Array Oper} {rest : List Oper} {op : Oper} {a : Act} {Q : Exit → Act → World → Prop} (B : Blk b w cs') (hgd : op.guard = none) (x y : Operand) (ho : op.op = .store t x y)
    (hx : a.eval x = .pointer (some ⟨b, 0, none⟩)) (hy : a.eval y = .agg cs) (h : ∀ z, Touch b w z → Blk b z cs → wpList Try.prog ops Q rest (a.put op.dst undef) z) : wpList Try.prog ops Q (op :: rest) a w :=
  wpList_store_mid hgd t x y ho b 0 cs hx hy (by have := B.there; rwa [hs', ← hs] at this) (by rw [T.size, hs]) h1 (h _ (Touch.puts _ 0 (Touch.refl b w)) (blk_puts B (by rw [hs, hs'])))

theorem var_big (T : IsBig t k) (hs : cs.size = k) (B : Blk b w cs) : (loadVar t ⟨b, 0, none⟩).run Try.prog w = .ok (.agg cs) w := by
  obtain ⟨d, h1, h2⟩ := T.row
  exact run_loadVar_mid w b 0 t cs.toList d B.range h1 h2 (by rw [T.size, ← hs]; simp)

theorem results_big (T : IsBig t k) (hs : cs.size = k) {fn : Func} {u : Tmp} (h : fn.results = #[.cell u t]) (tmps : Array Value) (hp : tmps.getD u undef = .pointer (some ⟨b, 0, none⟩)) (B : Blk b w cs) : (results fn tmps).run Try.prog w = .ok (.agg cs) w := by
  have e := var_big T hs B
  have hq : tmps[u]?.getD undef = .pointer (some ⟨b, 0, none⟩) := by simpa using hp
  simp [results, h, hq, asAddr, e]

theorem does_load (T : IsBig t k) (hs : cs.size = k) {op : Oper} {a : Act} {R : Value → World → Prop} (B : Blk b w cs) (x : Operand) (ho : op.op = .load t x)
    (hx : a.eval x = .pointer (some ⟨b, 0, none⟩)) (h : R (.agg cs) w) : does Try.prog op a w R := by
  have e := var_big T hs B
  unfold does execOp
  simp only [ho, hx, Instr.loadAt, Instr.sureAddr, Sem.run_bind, Sem.run_pure, Result.andThen_ok, e]
  exact h

theorem does_store (T : IsBig t k) (hs : cs.size = k) (hr : Raw b k w) (h1 : cs.all (·.oneCell') = true) {op : Oper} {a : Act} {R : Value → World → Prop} (x y : Operand) (ho : op.op = .store t x y)
    (hx : a.eval x = .pointer (some ⟨b, 0, none⟩)) (hy : a.eval y = .agg cs) (h : ∀ z, Touch b w z → Blk b z cs → R undef z) : does Try.prog op a w R := by
  obtain ⟨c0, e0, B⟩ := hr
  have ht : w.there b 0 cs.size := by have := B.there; rwa [e0, ← hs] at this
  have e := run_storeVar_mid (P := Try.prog) w b 0 t cs ht (by rw [T.size, hs]) h1
  unfold does execOp
  simp only [ho, hx, hy, Instr.storeAt, Instr.sureAddr, Sem.run_bind, Sem.run_pure, Result.andThen_ok, e]
  exact h _ (Touch.puts _ 0 (Touch.refl b w)) (blk_puts B (by rw [hs, e0]))
end

/-- A pointer to a variable of k cells in a block from B on. -/
def BoxB (B k : Nat) (x : World) (v : Value) : Prop := ∃ g, v = .pointer (some ⟨g, 0, none⟩) ∧ B ≤ g ∧ Raw g k x

theorem Raw.since {g k : Nat} {x y : World} (h : Raw g k x) (s : Since x y) : Raw g k y := by
  obtain ⟨cs, e, b⟩ := h
  exact ⟨cs, e, b.since s⟩

theorem BoxB.since {B k : Nat} {x y : World} {v : Value} (h : BoxB B k x v) (s : Since x y) : BoxB B k y v := by
  obtain ⟨g, e, l, r⟩ := h
  exact ⟨g, e, l, r.since s⟩

theorem BoxB.new {B k : Nat} (x : World) (cs : Array Value) (t : TypeId) (h : B ≤ x.heap.size) (hs : cs.size = k) : BoxB B k (x.alloc (.cells cs t)) (.pointer (some ⟨x.heap.size, 0, none⟩)) := ⟨_, rfl, h, cs, hs, Blk.new x cs t⟩

/-- Behind a store into block g a variable is still there. -/
theorem BoxB.stored {B k g : Nat} {x y : World} {v : Value} {cs : Array Value} (h : BoxB B k x v) (s : Touch g x y) (b : Blk g y cs) (hs : cs.size = k) : BoxB B k y v := by
  obtain ⟨g', e, l, c0, e0, b0⟩ := h
  by_cases hg : g' = g
  · subst hg
    exact ⟨_, e, l, cs, hs, b⟩
  · exact ⟨g', e, l, c0, e0, b0.touch s hg⟩

theorem Raw.of {g k : Nat} {x : World} {cs : Array Value} (b : Blk g x cs) (hs : cs.size = k) : Raw g k x := ⟨cs, hs, b⟩
end Go.Proofs.Ytpkenhcglnognaa
