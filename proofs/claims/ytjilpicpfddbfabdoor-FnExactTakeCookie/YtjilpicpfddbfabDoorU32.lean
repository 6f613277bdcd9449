/-
  Lists of words of 32 bits: the shape, the laws' copy of one, and two of them held against each other.
-/
import Derived.Test.YtjilpicpfddbfabDoorM1
import Derived.Test.YtjilpicpfddbfabDoorTabApp
import Derived.Test.YtjilpicpfddbfabDoorCalm
import Derived.Laws.ByValue
import Derived.Maps.RangeWalk
namespace Go.Proofs.YtjilpicpfddbfabDoor
open Go.ChangeShapes Go.WideShapes Go.ChangeAt Go.RowKit Go.Deep
set_option linter.unusedVariables false
set_option maxRecDepth 10000

/-- A word. -/
def shU : Shape Int := ⟨22, 1, fun x => [.int .u32 x], fun _ => rfl, fun x v hv => by simp at hv; subst hv; rfl, 0, by decide⟩

/-- Word i. -/
def uAt (ns : List Int) (i : Nat) : Int := ns.getD i 0

theorem Rd.numU {w : World} {a : Option Addr} {n : Nat} {ns : List Int} (h : Rd shU w a n ns) (i : Nat) (hi : i < n) : ∃ x, a = some x ∧ x.block < w.heap.size ∧ w.cell? (x.add i) = some (.int .u32 (uAt ns i)) := by
  obtain ⟨x, e, hb, hc⟩ := h.cell i hi
  have h0 := hc 0 (by decide)
  refine ⟨x, e, hb, ?_⟩
  rw [show i * shU.k + 0 = i by simp [shU]] at h0
  exact h0

theorem Held.numU {w : World} {B g n cap : Nat} {ns : List Int} (h : Held shU w B g n cap ns) (i : Nat) (hi : i < n) : w.cell? ⟨g, i, none⟩ = some (.int .u32 (uAt ns i)) := by
  have := h.cell i hi 0 (by decide)
  rw [show i * shU.k + 0 = i by simp [shU]] at this
  exact this
end Go.Proofs.YtjilpicpfddbfabDoor
