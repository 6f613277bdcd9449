/-
  append to a list of our own, of any shape: at a plain region and at a step of one that draws its order.
-/
import Derived.Test.YtpkenhcglnognaaM1
import Derived.Test.YtpkenhcglnognaaCalm
import Derived.Laws.ByValue
import Derived.Maps.RangeWalk
import Derived.Deep.RegionLaw
namespace Go.Proofs.Ytpkenhcglnognaa
open Go.ChangeShapes Go.WideShapes Go.ChangeAt Go.RowKit Go.Deep
set_option linter.unusedVariables false
set_option maxRecDepth 10000

section
variable {α : Type} {S : Shape α}

/-- A new block of one element. -/
theorem Rd.one (w : World) (x : α) (t : TypeId) (b : Nat) (hb : b = w.heap.size) : Rd S (w.alloc (.cells (S.enc x).toArray t)) (some ⟨b, 0, none⟩) 1 [x] := by
  subst hb
  refine ⟨rfl, by unfold maxLen; omega, fun i hi => ⟨_, rfl, by simp, fun j hj => ?_⟩⟩
  obtain rfl : i = 0 := by omega
  have e : (⟨w.heap.size, 0, none⟩ : Addr).add (0 * S.k + j) = ⟨w.heap.size, j, none⟩ := by unfold Addr.add; split <;> simp_all
  rw [e, World.cell?_alloc_mark]
  simp [Shape.get]

/-- A new empty list. -/
theorem Held.empty (w : World) : Held S (w.alloc (.cells #[] S.ty)) w.heap.size w.heap.size 0 0 [] :=
  ⟨rfl, by
    have := World.ownsRow_made (base := w.heap.size) (e := S.ty) (size := S.k) w #[] 0 (Nat.le_refl _) (by decide) (by simp)
    simpa [Shape.cells] using this⟩

end
end Go.Proofs.Ytpkenhcglnognaa
