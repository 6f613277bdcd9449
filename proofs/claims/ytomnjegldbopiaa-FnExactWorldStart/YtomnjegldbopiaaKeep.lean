/-
  A region whose answer is a struct in a block of its own, stored whole at some time: nothing turns but that block and new ones, and once it is stored it stays.
-/
import Derived.Test.YtomnjegldbopiaaTab
import Derived.Test.YtomnjegldbopiaaDrawnR
namespace Go.Proofs.Ytomnjegldbopiaa
open Go.ChangeShapes Go.WideShapes Go.ChangeAt Go.RowKit Go.Deep
set_option linter.unusedVariables false
set_option maxRecDepth 10000

/-- Block g has n cells, whatever they hold, and may be written. -/
def Raw (g n : Nat) (x : World) : Prop := ∃ cs : Array Value, cs.size = n ∧ Blk g x cs

/-- From x to y nothing turns but block g and new ones; if block g holds fin it still does. -/
structure KeepB (g : Nat) (fin : Array Value) (x y : World) : Prop where
  touch : Touch g x y
  done : Blk g x fin → Blk g y fin
  raw : Raw g fin.size x → Raw g fin.size y

theorem KeepB.refl (g : Nat) (fin : Array Value) (x : World) : KeepB g fin x x := ⟨Touch.refl _ _, id, id⟩

theorem KeepB.trans {g : Nat} {fin : Array Value} (x y z : World) (h : KeepB g fin x y) (k : KeepB g fin y z) : KeepB g fin x z := ⟨h.touch.trans k.touch, fun b => k.done (h.done b), fun b => k.raw (h.raw b)⟩

theorem KeepB.of_since {g : Nat} {fin : Array Value} {x y : World} (h : Since x y) : KeepB g fin x y := ⟨Touch.of_since h g, fun b => b.since h, fun ⟨cs, e, b⟩ => ⟨cs, e, b.since h⟩⟩

theorem KeepB.drew {g : Nat} {fin : Array Value} (x : World) : KeepB g fin x x.drew := KeepB.of_since ((Since.refl _).drew)

theorem KeepB.since {g : Nat} {fin : Array Value} {w x y : World} (h : Since w x) (k : KeepB g fin x y) (hg : w.heap.size ≤ g) : Since w y := Since.touch h k.touch hg

theorem Raw.cell {g n : Nat} {x : World} (h : Raw g n x) (i : Nat) (hi : i < n) : ∃ u, x.cell? ⟨g, i, none⟩ = some u := by
  obtain ⟨cs, e, b⟩ := h
  exact ⟨cs[i], by rw [b.cell i]; simp⟩

theorem Raw.fz {g n : Nat} {x : World} (h : Raw g n x) (i : Nat) : x.frozen? ⟨g, i, none⟩ = false := by
  obtain ⟨cs, e, b⟩ := h
  exact b.fz i

theorem Raw.put {g n : Nat} {x : World} (h : Raw g n x) (i : Nat) (hi : i < n) (v : Value) : Raw g n (x.setCell ⟨g, i, none⟩ v) := by
  obtain ⟨cs, e, b⟩ := h
  exact ⟨_, by simpa using e, b.put i v (by omega)⟩

/-- From x to y nothing turns but block g and new ones; if I holds it still does. -/
structure KeepI (g n : Nat) (I : World → Prop) (x y : World) : Prop where
  touch : Touch g x y
  keep : I x → I y
  raw : Raw g n x → Raw g n y

theorem KeepI.refl (g n : Nat) (I : World → Prop) (x : World) : KeepI g n I x x := ⟨Touch.refl _ _, id, id⟩

theorem KeepI.trans {g n : Nat} {I : World → Prop} (x y z : World) (h : KeepI g n I x y) (k : KeepI g n I y z) : KeepI g n I x z := ⟨h.touch.trans k.touch, fun b => k.keep (h.keep b), fun b => k.raw (h.raw b)⟩

theorem KeepI.of_since {g n : Nat} {I : World → Prop} (hI : ∀ x y, Since x y → I x → I y) {x y : World} (h : Since x y) : KeepI g n I x y := ⟨Touch.of_since h g, hI x y h, fun ⟨cs, e, b⟩ => ⟨cs, e, b.since h⟩⟩

theorem KeepI.since {g n : Nat} {I : World → Prop} {w x y : World} (h : Since w x) (k : KeepI g n I x y) (hg : w.heap.size ≤ g) : Since w y := Since.touch h k.touch hg
end Go.Proofs.Ytomnjegldbopiaa
