/-
  Lists of numbers.
-/
import Derived.Test.YtmgaikpninblgaaTab
import Derived.Test.YtmgaikpninblgaaTabApp
namespace Go.Proofs.Ytmgaikpninblgaa
open Go.ChangeShapes Go.WideShapes Go.ChangeAt Go.RowKit Go.Deep
set_option linter.unusedVariables false

/-- A number. -/
def shI : Shape Int := ⟨3, 1, fun x => [.int .i64 x], fun _ => rfl, fun x v hv => by simp at hv; subst hv; rfl, 0, by decide⟩

/-- Number i. -/
def iAt (ns : List Int) (i : Nat) : Int := ns.getD i 0

theorem info_I : (Try.prog.info? 3).map (fun i => (i.zero, i.size, i.bytes)) = some (some (.int .i64 0), 1, 8) := by kernel_rfl

theorem Rd.num {w : World} {a : Option Addr} {n : Nat} {ns : List Int} (h : Rd shI w a n ns) (i : Nat) (hi : i < n) : ∃ x, a = some x ∧ x.block < w.heap.size ∧ w.cell? (x.add i) = some (.int .i64 (iAt ns i)) := by
  obtain ⟨x, e, hb, hc⟩ := h.cell i hi
  have h0 := hc 0 (by decide)
  refine ⟨x, e, hb, ?_⟩
  rw [show i * shI.k + 0 = i by simp [shI]] at h0
  exact h0

theorem Held.num {w : World} {B g n cap : Nat} {ns : List Int} (h : Held shI w B g n cap ns) (i : Nat) (hi : i < n) : w.cell? ⟨g, i, none⟩ = some (.int .i64 (iAt ns i)) := by
  have := h.cell i hi 0 (by decide)
  rw [show i * shI.k + 0 = i by simp [shI]] at this
  exact this

theorem Held.setI {w : World} {B g n cap : Nat} {ns : List Int} (h : Held shI w B g n cap ns) (i : Nat) (hi : i < n) (x : Int) : Held shI (w.setCell ⟨g, i, none⟩ (.int .i64 x)) B g n cap (ns.set i x) := by
  have := h.set i hi x
  rw [show i * shI.k = i by simp [shI]] at this
  exact this

theorem laidI : Laid shI 24 8 := by
  obtain ⟨ii, hi, hz0, hz1, hz2⟩ := info_parts info_I
  exact ⟨Try.underlying24, ii, _, hi, hz0, hz1, hz2, rfl⟩
end Go.Proofs.Ytmgaikpninblgaa
