/-
  An address as a value, and in a variable of its own: its two cells, read and written.
-/
import Derived.Test.YtfohognpcipmaaaDoorRec8
namespace Go.Proofs.YtfohognpcipmaaaDoor
open Go.ChangeShapes Go.WideShapes Go.ChangeAt Go.RowKit
set_option linter.unusedVariables false

/-- An address as a value. -/
def addrVal (h p : Int) : Value := .agg #[.int .u32 h, .int .i64 p]

/-- Block b holds these two cells, and may be written. -/
structure Rec2 (b : Nat) (x : World) (c0 c1 : Value) : Prop where
  lt : b < x.heap.size
  fz : ∀ i, x.frozen? ⟨b, i, none⟩ = false
  c0 : x.cell? ⟨b, 0, none⟩ = some c0
  c1 : x.cell? ⟨b, 1, none⟩ = some c1

theorem Rec2.since {b : Nat} {x x' : World} {c0 c1 : Value} (k : Rec2 b x c0 c1) (h : Since x x') : Rec2 b x' c0 c1 := by
  have hc : ∀ i, x'.cell? ⟨b, i, none⟩ = x.cell? ⟨b, i, none⟩ := fun i => Below.cell h (p := ⟨b, i, none⟩) k.lt
  exact ⟨Nat.lt_of_lt_of_le k.lt h.le, fun i => (Below.frozen h (p := ⟨b, i, none⟩) k.lt).trans (k.fz i), (hc 0).trans k.c0, (hc 1).trans k.c1⟩

theorem Rec2.new (x : World) (c0 c1 : Value) (t : TypeId) : Rec2 x.heap.size (x.alloc (.cells #[c0, c1] t)) c0 c1 := ⟨by simp, fun i => by simp, by simp, by simp⟩

theorem Rec2.other {a b : Nat} {x : World} {c0 c1 : Value} (k : Rec2 b x c0 c1) (hne : b ≠ a) (i : Nat) (v : Value) : Rec2 b (x.setCell ⟨a, i, none⟩ v) c0 c1 := by
  have hc : ∀ j, (x.setCell ⟨a, i, none⟩ v).cell? ⟨b, j, none⟩ = x.cell? ⟨b, j, none⟩ := fun j => World.cell?_setCell_other x _ _ v (fun h => hne (congrArg Addr.block h).symm)
  exact ⟨by have := k.lt; simpa [World.setCell] using this, fun j => (World.frozen?_setCell _ _ _ _).trans (k.fz j), (hc 0).trans k.c0, (hc 1).trans k.c1⟩

/-- A world in which an address has been stored into block b. -/
def stored2 (b : Nat) (x : World) (c0 c1 : Value) : World := (x.setCell ⟨b, 0, none⟩ c0).setCell ⟨b, 1, none⟩ c1

theorem Rec2.stored {b : Nat} {x : World} {d0 d1 : Value} (k : Rec2 b x d0 d1) (c0 c1 : Value) : Rec2 b (stored2 b x c0 c1) c0 c1 := by
  unfold stored2
  refine ⟨by have := k.lt; simpa [World.setCell] using this, fun j => by simp [World.frozen?_setCell, k.fz j], ?_, ?_⟩
  all_goals simp [World.cell?_setCell_same', World.cell?_setCell_other, k.c0, k.c1]

theorem Rec2.other2 {a b : Nat} {x : World} {d0 d1 : Value} (k : Rec2 b x d0 d1) (hne : b ≠ a) (c0 c1 : Value) : Rec2 b (stored2 a x c0 c1) d0 d1 := (k.other hne 0 _).other hne 1 _

theorem Rec2.other8 {a b : Nat} {x : World} {d0 d1 : Value} (k : Rec2 b x d0 d1) (hne : b ≠ a) (c0 c1 c2 c3 c4 c5 c6 c7 : Value) : Rec2 b (stored8 a x c0 c1 c2 c3 c4 c5 c6 c7) d0 d1 :=
  ((((((((k.other hne 0 _).other hne 1 _).other hne 2 _).other hne 3 _).other hne 4 _).other hne 5 _).other hne 6 _).other hne 7 _)

theorem Rec8.other2 {a b : Nat} {x : World} {d0 d1 d2 d3 d4 d5 d6 d7 : Value} (k : Rec8 b x d0 d1 d2 d3 d4 d5 d6 d7) (hne : b ≠ a) (c0 c1 : Value) : Rec8 b (stored2 a x c0 c1) d0 d1 d2 d3 d4 d5 d6 d7 := (k.other hne 0 _).other hne 1 _

theorem since_stored2 {w x : World} {b : Nat} (h : Since w x) (hb : w.heap.size ≤ b) (c0 c1 : Value) : Since w (stored2 b x c0 c1) := since_put (since_put h hb 0 _) hb 1 _

/-- A world in which the three answers have been stored. -/
def answered (A B S : Nat) (x : World) (a0 a1 b0 b1 c0 c1 c2 c3 c4 c5 c6 c7 : Value) : World := stored8 S (stored2 B (stored2 A x a0 a1) b0 b1) c0 c1 c2 c3 c4 c5 c6 c7

theorem answered_ok {A B S : Nat} {x : World} {x0 x1 y0 y1 d0 d1 d2 d3 d4 d5 d6 d7 : Value} (kA : Rec2 A x x0 x1) (kB : Rec2 B x y0 y1) (kS : Rec8 S x d0 d1 d2 d3 d4 d5 d6 d7) (hAB : A ≠ B) (hAS : A ≠ S) (hBS : B ≠ S) (a0 a1 b0 b1 c0 c1 c2 c3 c4 c5 c6 c7 : Value) :
    Rec2 A (answered A B S x a0 a1 b0 b1 c0 c1 c2 c3 c4 c5 c6 c7) a0 a1 ∧ Rec2 B (answered A B S x a0 a1 b0 b1 c0 c1 c2 c3 c4 c5 c6 c7) b0 b1 ∧ Rec8 S (answered A B S x a0 a1 b0 b1 c0 c1 c2 c3 c4 c5 c6 c7) c0 c1 c2 c3 c4 c5 c6 c7 :=
  ⟨((kA.stored a0 a1).other2 hAB b0 b1).other8 hAS c0 c1 c2 c3 c4 c5 c6 c7, ((kB.other2 (Ne.symm hAB) a0 a1).stored b0 b1).other8 hBS c0 c1 c2 c3 c4 c5 c6 c7, ((kS.other2 (Ne.symm hAS) a0 a1).other2 (Ne.symm hBS) b0 b1).stored c0 c1 c2 c3 c4 c5 c6 c7⟩

theorem since_answered {w x : World} {A B S : Nat} (h : Since w x) (hA : w.heap.size ≤ A) (hB : w.heap.size ≤ B) (hS : w.heap.size ≤ S) (a0 a1 b0 b1 c0 c1 c2 c3 c4 c5 c6 c7 : Value) : Since w (answered A B S x a0 a1 b0 b1 c0 c1 c2 c3 c4 c5 c6 c7) :=
  since_stored (since_stored2 (since_stored2 h hA a0 a1) hB b0 b1) hS c0 c1 c2 c3 c4 c5 c6 c7
end Go.Proofs.YtfohognpcipmaaaDoor
