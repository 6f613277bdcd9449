/-
  Lists of words of 32 bits: the shape, the laws' copy of one, and two of them held against each other.
-/
import Derived.Test.YtjilpicpfddbfaaDoorTab
import Derived.Test.YtjilpicpfddbfaaDoorTabApp
import Derived.Test.YtjilpicpfddbfaaDoorCalm
import Derived.Laws.ByValue
import Derived.Maps.RangeWalk
namespace Go.Proofs.YtjilpicpfddbfaaDoor
open Go.ChangeShapes Go.WideShapes Go.ChangeAt Go.RowKit Go.Deep
set_option linter.unusedVariables false
set_option maxRecDepth 10000

/-- A word. -/
def shU : Shape Int := ⟨24, 1, fun x => [.int .u32 x], fun _ => rfl, fun x v hv => by simp at hv; subst hv; rfl, 0, by decide⟩

/-- Word i. -/
def uAt (ns : List Int) (i : Nat) : Int := ns.getD i 0

theorem info_U : (Tryd.prog.info? 24).map (fun i => (i.zero, i.size, i.bytes)) = some (some (.int .u32 0), 1, 4) := by kernel_rfl

theorem Rd.numU {w : World} {a : Option Addr} {n : Nat} {ns : List Int} (h : Rd shU w a n ns) (i : Nat) (hi : i < n) : ∃ x, a = some x ∧ x.block < w.heap.size ∧ w.cell? (x.add i) = some (.int .u32 (uAt ns i)) := by
  obtain ⟨x, e, hb, hc⟩ := h.cell i hi
  have h0 := hc 0 (by decide)
  refine ⟨x, e, hb, ?_⟩
  rw [show i * shU.k + 0 = i by simp [shU]] at h0
  exact h0

theorem Held.numU {w : World} {B g n cap : Nat} {ns : List Int} (h : Held shU w B g n cap ns) (i : Nat) (hi : i < n) : w.cell? ⟨g, i, none⟩ = some (.int .u32 (uAt ns i)) := by
  have := h.cell i hi 0 (by decide)
  rw [show i * shU.k + 0 = i by simp [shU]] at this
  exact this

theorem Held.setU {w : World} {B g n cap : Nat} {ns : List Int} (h : Held shU w B g n cap ns) (i : Nat) (hi : i < n) (x : Int) : Held shU (w.setCell ⟨g, i, none⟩ (.int .u32 x)) B g n cap (ns.set i x) := by
  have := h.set i hi x
  rw [show i * shU.k = i by simp [shU]] at this
  exact this

theorem cells_zeroU : ∀ n : Nat, shU.cells (List.replicate n 0) = List.replicate n (.int .u32 0)
  | 0 => rfl
  | n + 1 => by
    have := cells_zeroU n
    rw [List.replicate_succ, List.replicate_succ, ← this]
    rfl

theorem made_numU {w : World} {B g n : Nat} (h : w.ownsRow B 24 1 (.slice (some ⟨g, 0, none⟩) n n) n (madeCells #[.int .u32 0] n).toList) : Held shU w B g n n (List.replicate n 0) := by
  refine Held.of_owns (by simp) ?_ h
  rw [cells_zeroU n]
  apply List.ext_getElem?
  intro j
  by_cases hj : j < n
  · simp only [madeCells, Array.getElem?_toList, List.getElem?_replicate, hj, if_true]
    have h : j % 1 = 0 := by omega
    simp [hj, h]
  · simp [madeCells, hj]
end Go.Proofs.YtjilpicpfddbfaaDoor
