/-
  Answers that are stored into new variables in an order left open: lists of parts and variables are told apart by their blocks' types.
-/
import Derived.Test.YtipaaddjpmlajaaGreatM11
import Derived.Test.YtipaaddjpmlajaaGreatM3
namespace Go.Proofs.YtipaaddjpmlajaaGreat
open Go.ChangeShapes Go.WideShapes Go.ChangeAt Go.RowKit
set_option linter.unusedVariables false
set_option maxRecDepth 10000

/-- A variable of k cells whose block is of type t. -/
def Typed (t : TypeId) (k b : Nat) (x : World) : Prop := (∃ cur, x.heap[b]? = some (.cells cur t (0, 0))) ∧ Raw b k x

/-- From x to y every list of parts and every variable stands. -/
def KeepsT (x y : World) : Prop := (∀ (B g n cap : Nat) (ps : List (Int × ByteArray)), Held shP x B g n cap ps → Held shP y B g n cap ps) ∧ ∀ t k b, Typed t k b x → Typed t k b y

theorem Typed.since {t : TypeId} {k b : Nat} {x y : World} (h : Typed t k b x) (s : Since x y) : Typed t k b y := by
  obtain ⟨⟨cur, h1⟩, cs, e, B⟩ := h
  exact ⟨⟨cur, by rw [Below.block s b B.lt]; exact h1⟩, cs, e, B.since s⟩

theorem KeepsT.of_since {x y : World} (s : Since x y) : KeepsT x y := ⟨fun _ _ _ _ _ h => h.since s, fun _ _ _ h => h.since s⟩

theorem Typed.new (x : World) (cs : Array Value) (t : TypeId) {k : Nat} (h : cs.size = k) : Typed t k x.heap.size (x.alloc (.cells cs t)) := ⟨⟨cs, by rw [← World.alloc_eq]; simp⟩, cs, h, Blk.new x cs t⟩

theorem typed_ne {x : World} {B g n cap : Nat} {ps : List (Int × ByteArray)} {t : TypeId} {k b : Nat} (h : Held shP x B g n cap ps) (k : Typed t k b x) (ht : t ≠ 141) : g ≠ b := by
  intro e
  subst e
  obtain ⟨cur, h3, -⟩ := h.heap
  obtain ⟨⟨c2, h4⟩, -⟩ := k
  rw [h3] at h4
  simp at h4
  exact ht h4.2.symm

theorem heap_sets (b : Nat) (t : TypeId) : ∀ (vs : List Value) (o : Nat) (w : World) (cur : Array Value), w.heap[b]? = some (.cells cur t (0, 0)) → ∃ c2, (w.setCells b o vs).heap[b]? = some (.cells c2 t (0, 0))
  | [], _, _, cur, h => ⟨cur, h⟩
  | v :: r, o, w, cur, h => by
    rw [World.setCells]
    exact heap_sets b t r (o + 1) _ _ (heap_setCell_same w b o cur t v h)

theorem does_storeT {t : TypeId} {k : Nat} {cs : Array Value} {b : Nat} {w : World} {t' : TypeId} (T : IsBig t k) (hs : cs.size = k) (hr : Typed t' k b w) (ht : t' ≠ 141) (h1 : cs.all (·.oneCell') = true) {op : Oper} {a : Act} {R : Value → World → Prop} (x y : Operand) (ho : op.op = .store t x y)
    (hx : a.eval x = .pointer (some ⟨b, 0, none⟩)) (hy : a.eval y = .agg cs) (h : ∀ z, KeepsT w z → Touch b w z → Blk b z cs → R undef z) : does Tryz.prog op a w R := by
  obtain ⟨⟨cur, hh⟩, c0, e0, B⟩ := hr
  have hty : Typed t' k b w := ⟨⟨cur, hh⟩, c0, e0, B⟩
  have hth : w.there b 0 cs.size := by have := B.there; rwa [e0, ← hs] at this
  have e := run_storeVar_mid (P := Tryz.prog) w b 0 t cs hth (by rw [T.size, hs]) h1
  have tt := Touch.puts (g := b) cs.toList 0 (Touch.refl b w)
  have bb := blk_puts B (show cs.size = c0.size by rw [hs, e0])
  unfold does execOp
  simp only [ho, hx, hy, Instr.storeAt, Instr.sureAddr, Sem.run_bind, Sem.run_pure, Result.andThen_ok, e]
  refine h _ ⟨fun B' g n cap ps H => H.touch tt (typed_ne H hty ht), fun t2 k2 b2 H => ?_⟩ tt bb
  obtain ⟨⟨c2, h2⟩, c3, e3, B3⟩ := H
  by_cases hb : b2 = b
  · subst hb
    obtain ⟨c4, h4⟩ := heap_sets b2 t2 cs.toList 0 w c2 h2
    refine ⟨⟨c4, h4⟩, cs, ?_, bb⟩
    have q1 := B.cell k2
    have q2 := B3.cell k2
    rw [Array.getElem?_eq_none (by omega)] at q2
    rw [q2] at q1
    have q3 := Array.getElem?_eq_none_iff.1 q1.symm
    have q4 := B.cell k
    have q5 := B3.cell k
    rw [Array.getElem?_eq_none (by omega)] at q4
    rw [q4] at q5
    have q6 := Array.getElem?_eq_none_iff.1 q5.symm
    omega
  · exact ⟨⟨c2, by rw [tt.block b2 B3.lt hb]; exact h2⟩, c3, e3, B3.touch tt hb⟩

theorem does_v {op : Oper} {a : Act} {w : World} {R : Value → World → Prop} (v : Value) (h : (execOp a.eval op).run Tryz.prog w = .ok (.value v) w) (k : R v w) : does Tryz.prog op a w R := by
  unfold does
  rw [h]
  exact k

theorem does_w {op : Oper} {a : Act} {w : World} {R : Value → World → Prop} (v : Value) (w' : World) (h : (execOp a.eval op).run Tryz.prog w = .ok (.value v) w') (k : R v w') : does Tryz.prog op a w R := by
  unfold does
  rw [h]
  exact k

theorem does_c {op : Oper} {a : Act} {w : World} {R : Value → World → Prop} {f : FuncId} (args0 : Array Value) {args : Array Value} {S : Ending → World → Prop} (hc : Calls Tryz.prog f args w S) (he : args0 = args) (k : ∀ e w', S e w' → ∃ v, e = .returned v ∧ R v w') (h : (execOp a.eval op).run Tryz.prog w = .ok (.enter f args0) w := by kernel_rfl) : does Tryz.prog op a w R := by
  unfold does
  rw [h, he]
  exact hc.mono k
end Go.Proofs.YtipaaddjpmlajaaGreat
