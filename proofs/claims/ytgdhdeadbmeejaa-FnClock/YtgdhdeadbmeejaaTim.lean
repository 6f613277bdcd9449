/-
  Contracts of the laws' functions over lists of timers and of numbers: copied, held against another, marked, the marks looked for.
-/
import Derived.Test.YtgdhdeadbmeejaaTab
import Derived.Test.YtgdhdeadbmeejaaCalm
namespace Go.Proofs.Ytgdhdeadbmeejaa
open Go.ChangeShapes Go.WideShapes Go.ChangeAt Go.RowKit Go.Deep
set_option linter.unusedVariables false

/-- A timer: its Id, its At. -/
def shT : Shape (Int × Int) := ⟨47, 2, fun x => [.int .i64 x.1, .int .i64 x.2], fun _ => rfl, fun x v hv => by simp at hv; rcases hv with rfl | rfl <;> rfl, (0, 0), by decide⟩

/-- A number. -/
def shI : Shape Int := ⟨3, 1, fun x => [.int .i64 x], fun _ => rfl, fun x v hv => by simp at hv; subst hv; rfl, 0, by decide⟩

/-- Timer i. -/
def tAt (ts : List (Int × Int)) (i : Nat) : Int × Int := ts.getD i (0, 0)

/-- Number i. -/
def iAt (ns : List Int) (i : Nat) : Int := ns.getD i 0

theorem info_T : (Try.prog.info? 47).map (fun i => (i.zero, i.size, i.bytes)) = some (some (.agg #[.int .i64 0, .int .i64 0]), 2, 16) := by kernel_rfl

theorem info_I : (Try.prog.info? 3).map (fun i => (i.zero, i.size, i.bytes)) = some (some (.int .i64 0), 1, 8) := by kernel_rfl

theorem Rd.tim {w : World} {a : Option Addr} {n : Nat} {ts : List (Int × Int)} (h : Rd shT w a n ts) (i : Nat) (hi : i < n) : ∃ x, a = some x ∧ x.block < w.heap.size ∧ w.cell? (x.add (i * 2)) = some (.int .i64 (tAt ts i).1) ∧ w.cell? ⟨(x.add (i * 2)).block, (x.add (i * 2)).off + 1, none⟩ = some (.int .i64 (tAt ts i).2) := by
  obtain ⟨x, e, hb, hc⟩ := h.cell i hi
  refine ⟨x, e, hb, hc 0 (by decide), ?_⟩
  rw [addr_step x (i * 2) 1 (by omega)]
  exact hc 1 (by decide)

theorem Rd.num {w : World} {a : Option Addr} {n : Nat} {ns : List Int} (h : Rd shI w a n ns) (i : Nat) (hi : i < n) : ∃ x, a = some x ∧ x.block < w.heap.size ∧ w.cell? (x.add i) = some (.int .i64 (iAt ns i)) := by
  obtain ⟨x, e, hb, hc⟩ := h.cell i hi
  have h0 := hc 0 (by decide)
  refine ⟨x, e, hb, ?_⟩
  rw [show i * shI.k + 0 = i by simp [shI]] at h0
  exact h0

theorem Held.tim {w : World} {B g n cap : Nat} {ts : List (Int × Int)} (h : Held shT w B g n cap ts) (i : Nat) (hi : i < n) : w.cell? ⟨g, i * 2, none⟩ = some (.int .i64 (tAt ts i).1) ∧ w.cell? ⟨g, i * 2 + 1, none⟩ = some (.int .i64 (tAt ts i).2) := ⟨h.cell i hi 0 (by decide), h.cell i hi 1 (by decide)⟩

theorem Held.num {w : World} {B g n cap : Nat} {ns : List Int} (h : Held shI w B g n cap ns) (i : Nat) (hi : i < n) : w.cell? ⟨g, i, none⟩ = some (.int .i64 (iAt ns i)) := by
  have := h.cell i hi 0 (by decide)
  rw [show i * shI.k + 0 = i by simp [shI]] at this
  exact this

theorem Held.setT {w : World} {B g n cap : Nat} {ts : List (Int × Int)} (h : Held shT w B g n cap ts) (i : Nat) (hi : i < n) (x y : Int) : Held shT ((w.setCell ⟨g, i * 2, none⟩ (.int .i64 x)).setCell ⟨g, i * 2 + 1, none⟩ (.int .i64 y)) B g n cap (ts.set i (x, y)) := h.set i hi (x, y)

theorem Held.setI {w : World} {B g n cap : Nat} {ns : List Int} (h : Held shI w B g n cap ns) (i : Nat) (hi : i < n) (x : Int) : Held shI (w.setCell ⟨g, i, none⟩ (.int .i64 x)) B g n cap (ns.set i x) := by
  have := h.set i hi x
  rw [show i * shI.k = i by simp [shI]] at this
  exact this

theorem cells_zero : ∀ n : Nat, shT.cells (List.replicate n (0, 0)) = List.replicate (n * 2) (.int .i64 0)
  | 0 => rfl
  | n + 1 => by
    rw [List.replicate_succ, show (n + 1) * 2 = n * 2 + 1 + 1 by omega, List.replicate_succ, List.replicate_succ, ← cells_zero n]
    rfl

theorem made_tim {w : World} {B g n : Nat} (h : w.ownsRow B 47 2 (.slice (some ⟨g, 0, none⟩) n n) n (madeCells #[.int .i64 0, .int .i64 0] (n * 2)).toList) : Held shT w B g n n (List.replicate n (0, 0)) := by
  refine Held.of_owns (by simp) ?_ h
  rw [cells_zero n]
  apply List.ext_getElem?
  intro j
  by_cases hj : j < n * 2
  · simp only [madeCells, Array.getElem?_toList, List.getElem?_replicate, hj, if_true]
    have hm : j % 2 = 0 ∨ j % 2 = 1 := by omega
    rcases hm with h | h <;> simp [hj, h]
  · simp [madeCells, hj]
end Go.Proofs.Ytgdhdeadbmeejaa
