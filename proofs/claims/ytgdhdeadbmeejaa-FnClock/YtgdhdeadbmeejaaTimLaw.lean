/-
  Contracts of the laws' functions over clocks: copied, held against another, marked, the marks looked for; and over lists of numbers.
-/
import Derived.Test.YtgdhdeadbmeejaaTim
import Derived.Laws.ByValue
import Derived.Maps.RangeWalk
namespace Go.Proofs.Ytgdhdeadbmeejaa
open Go.ChangeShapes Go.WideShapes Go.ChangeAt Go.RowKit Go.Deep
set_option linter.unusedVariables false

theorem Blk.put {b : Nat} {x : World} {cs : Array Value} (k : Blk b x cs) (i : Nat) (v : Value) (hi : i < cs.size) : Blk b (x.setCell ⟨b, i, none⟩ v) (cs.setIfInBounds i v) := by
  refine ⟨by have := k.lt; simpa [World.setCell] using this, fun j => (World.frozen?_setCell _ _ _ _).trans (k.fz j), fun j => ?_⟩
  by_cases e : j = i
  · subst e
    have hc := k.cell j
    rw [Array.getElem?_eq_getElem hi] at hc
    rw [World.cell?_setCell_same' _ _ _ (by rw [hc]; rfl)]
    simp [hi]
  · rw [World.cell?_setCell_other x _ _ v (fun h => e (congrArg Addr.off h).symm), k.cell j]
    simp [Ne.symm e]

theorem since_drews {w x : World} (h : Since w x) (n : Nat) : Since w (x.drewN n) := ⟨h.os, h.tape, h.output, h.size, h.block⟩

/-- Timer j is marked by k + 2 j and the number behind it. -/
def MarkedT (k : Int) (n : Nat) (ts : List (Int × Int)) : Prop := ∀ j, j < n → tAt ts j = (k + 2 * (j : Int), k + 2 * (j : Int) + 1)

theorem tAt_set_same (ts : List (Int × Int)) (i : Nat) (x : Int × Int) (h : i < ts.length) : tAt (ts.set i x) i = x := by
  simp [tAt, List.getD, h]

theorem tAt_set_other (ts : List (Int × Int)) (i j : Nat) (x : Int × Int) (h : i ≠ j) : tAt (ts.set i x) j = tAt ts j := by
  simp [tAt, List.getD, h]

theorem Own.cases {α : Type} {S : Shape α} {w : World} {B n : Nat} {v : Value} {xs : List α} (h : Own S w B v n xs) : (v = .slice none 0 0 ∧ n = 0 ∧ xs = []) ∨ ∃ g cap, v = .slice (some ⟨g, 0, none⟩) n cap ∧ Held S w B g n cap xs := by
  rcases h.2.2 with ⟨h1, h2⟩ | ⟨g, cap, cur, h1, _⟩
  · exact .inl ⟨h1, h2, List.eq_nil_of_length_eq_zero (h.1.trans h2)⟩
  · subst h1
    exact .inr ⟨g, cap, rfl, h⟩

/-- Number j is k + j. -/
def MarkedI (k : Int) (n : Nat) (ns : List Int) : Prop := ∀ j, j < n → iAt ns j = k + (j : Int)

theorem iAt_set_same (ns : List Int) (i : Nat) (x : Int) (h : i < ns.length) : iAt (ns.set i x) i = x := by
  simp [iAt, List.getD, h]

theorem iAt_set_other (ns : List Int) (i j : Nat) (x : Int) (h : i ≠ j) : iAt (ns.set i x) j = iAt ns j := by
  simp [iAt, List.getD, h]
end Go.Proofs.Ytgdhdeadbmeejaa
