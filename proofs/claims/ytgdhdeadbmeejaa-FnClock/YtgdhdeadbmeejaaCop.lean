/-
  Lists of clock ops: opened, copied, held against another, marked.
-/
import Derived.Test.YtgdhdeadbmeejaaTimLaw
import Derived.Test.YtgdhdeadbmeejaaOpenClock
import Derived.Test.YtgdhdeadbmeejaaDue
namespace Go.Proofs.Ytgdhdeadbmeejaa
open Go.ChangeShapes Go.WideShapes Go.ChangeAt Go.RowKit Go.Deep
set_option linter.unusedVariables false
set_option maxRecDepth 10000

/-- A clock op: Kind, Id, Wait. -/
def shO : Shape (Int × Int × Int) := ⟨43, 3, fun x => [.int .i64 x.1, .int .i64 x.2.1, .int .i64 x.2.2], fun _ => rfl, fun x v hv => by simp at hv; rcases hv with rfl | rfl | rfl <;> rfl, (0, 0, 0), by decide⟩

/-- Op i. -/
def oAt (os : List (Int × Int × Int)) (i : Nat) : Int × Int × Int := os.getD i (0, 0, 0)

theorem info_O : (Try.prog.info? 43).map (fun i => (i.zero, i.size, i.bytes)) = some (some (.agg #[.int .i64 0, .int .i64 0, .int .i64 0]), 3, 24) := by kernel_rfl

theorem Rd.op {w : World} {a : Option Addr} {n : Nat} {os : List (Int × Int × Int)} (h : Rd shO w a n os) (i : Nat) (hi : i < n) : ∃ x, a = some x ∧ x.block < w.heap.size ∧ w.cell? (x.add (i * 3)) = some (.int .i64 (oAt os i).1) ∧ w.cell? ⟨(x.add (i * 3)).block, (x.add (i * 3)).off + 1, none⟩ = some (.int .i64 (oAt os i).2.1) ∧ w.cell? ⟨(x.add (i * 3)).block, (x.add (i * 3)).off + 2, none⟩ = some (.int .i64 (oAt os i).2.2) := by
  obtain ⟨x, e, hb, hc⟩ := h.cell i hi
  refine ⟨x, e, hb, hc 0 (by decide), ?_, ?_⟩
  · rw [addr_step x (i * 3) 1 (by omega)]
    exact hc 1 (by decide)
  · rw [addr_step x (i * 3) 2 (by omega)]
    exact hc 2 (by decide)

theorem Held.op {w : World} {B g n cap : Nat} {os : List (Int × Int × Int)} (h : Held shO w B g n cap os) (i : Nat) (hi : i < n) : w.cell? ⟨g, i * 3, none⟩ = some (.int .i64 (oAt os i).1) ∧ w.cell? ⟨g, i * 3 + 1, none⟩ = some (.int .i64 (oAt os i).2.1) ∧ w.cell? ⟨g, i * 3 + 2, none⟩ = some (.int .i64 (oAt os i).2.2) := ⟨h.cell i hi 0 (by decide), h.cell i hi 1 (by decide), h.cell i hi 2 (by decide)⟩

theorem Held.setO {w : World} {B g n cap : Nat} {os : List (Int × Int × Int)} (h : Held shO w B g n cap os) (i : Nat) (hi : i < n) (x y z : Int) : Held shO (((w.setCell ⟨g, i * 3, none⟩ (.int .i64 x)).setCell ⟨g, i * 3 + 1, none⟩ (.int .i64 y)).setCell ⟨g, i * 3 + 2, none⟩ (.int .i64 z)) B g n cap (os.set i (x, y, z)) := h.set i hi (x, y, z)

theorem cells_zeroO : ∀ n : Nat, shO.cells (List.replicate n (0, 0, 0)) = List.replicate (n * 3) (.int .i64 0)
  | 0 => rfl
  | n + 1 => by
    rw [List.replicate_succ, show (n + 1) * 3 = n * 3 + 1 + 1 + 1 by omega, List.replicate_succ, List.replicate_succ, List.replicate_succ, ← cells_zeroO n]
    rfl

theorem made_op {w : World} {B g n : Nat} (h : w.ownsRow B 43 3 (.slice (some ⟨g, 0, none⟩) n n) n (madeCells #[.int .i64 0, .int .i64 0, .int .i64 0] (n * 3)).toList) : Held shO w B g n n (List.replicate n (0, 0, 0)) := by
  refine Held.of_owns (by simp) ?_ h
  rw [cells_zeroO n]
  apply List.ext_getElem?
  intro j
  by_cases hj : j < n * 3
  · simp only [madeCells, Array.getElem?_toList, List.getElem?_replicate, hj, if_true]
    have hm : j % 3 = 0 ∨ j % 3 = 1 ∨ j % 3 = 2 := by omega
    rcases hm with h | h | h <;> simp [hj, h]
  · simp [madeCells, hj]
end Go.Proofs.Ytgdhdeadbmeejaa
