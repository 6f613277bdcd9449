/-
  Contract of spec's l04Halves, at every text of 20 to 1048576 bytes: a new list of its first ten halves.
-/
import Derived.Test.YtfohognpcipmaaaFields
import Derived.OwnWalk
import Derived.Test.YtfohognpcipmaaaDrawnTail
namespace Go.Proofs.Ytfohognpcipmaaa
open Go.ChangeShapes Go.WideShapes Go.ChangeAt Go.RowKit
set_option linter.unusedVariables false

theorem info_int : (Try.prog.info? 3).map (fun i => (i.zero, i.size, i.bytes)) = some (some (.int .i64 0), 1, 8) := by kernel_rfl

/-- The first j halves of a text. -/
def firstHalves (s : ByteArray) (j : Nat) : List Value := (List.range j).map fun i => Value.int .i64 (halfAt s (2 * i))

/-- A new slice of one int. -/
def oneInt (B : Nat) (x : World) (n : Int) (v : Value) : Prop := ∃ b, v = .slice (some ⟨b, 0, none⟩) 1 1 ∧ B ≤ b ∧ b < x.heap.size ∧ x.cell? ⟨b, 0, none⟩ = some (.int .i64 n)

theorem oneInt_since {B : Nat} {x x' : World} {n : Int} {v : Value} (h : Since x x') (k : oneInt B x n v) : oneInt B x' n v := by
  obtain ⟨b, e, hB, hb, hc⟩ := k
  exact ⟨b, e, hB, Nat.lt_of_lt_of_le hb h.le, (Below.cell h (p := ⟨b, 0, none⟩) hb).trans hc⟩

theorem oneInt_new {B : Nat} {x : World} {n : Int} (hB : B ≤ x.heap.size) (t : TypeId) : oneInt B (x.alloc (.cells #[.int .i64 n] t)) n (.slice (some ⟨x.heap.size, 0, none⟩) 1 1) :=
  ⟨x.heap.size, rfl, hB, by simp, by simp⟩

theorem row_since {w w' : World} {base : Nat} {e : TypeId} {v : Value} {n : Nat} {xs : List Value} (h : w.ownsRow base e 1 v n xs) (k : Since w w') : w'.ownsRow base e 1 v n xs := by
  refine ⟨h.1, ?_⟩
  rcases h.2 with hn | ⟨g, cap, cur, hv, hb, hg, rest⟩
  · exact .inl hn
  · have hlt : g < w.heap.size := (Array.getElem?_eq_some_iff.1 hg).1
    exact .inr ⟨g, cap, cur, hv, hb, (Below.block k g hlt).trans hg, rest⟩

theorem ownsRow_next {w : World} {B : Nat} {v : Value} {n : Nat} {xs : List Value} {e : TypeId} (h : w.ownsRow B e 1 v (n + 1) xs) : ∃ g cap, v = .slice (some ⟨g, 0, none⟩) (n + 1) cap := by
  rcases h.2 with ⟨_, h2⟩ | ⟨g, cap, cur, h1, _⟩
  · omega
  · exact ⟨g, cap, h1⟩

theorem ownsRow_read {w : World} {s : ByteArray} {B gb cb : Nat} {e : TypeId} (h : w.ownsRow B e 1 (.slice (some ⟨gb, 0, none⟩) 10 cb) 10 (firstHalves s 10)) : gb < w.heap.size ∧ ∀ i, i < 10 → w.cell? ⟨gb, i, none⟩ = some (.int .i64 (halfAt s (2 * i))) := by
  refine ⟨(h.lt gb rfl).2, fun i hi => ?_⟩
  have hc := h.cells (g := gb) rfl i (.int .i64 (halfAt s (2 * i))) (by simp [firstHalves, hi])
  rwa [show (⟨gb, 0, none⟩ : Addr).add i = ⟨gb, i, none⟩ by simp [Addr.add]; omega] at hc
end Go.Proofs.Ytfohognpcipmaaa
