/-
  A slice of bytes that stands, and the text that it makes.
-/
import Derived.Test.YtigjppamjfnmcaaM3
namespace Go.Proofs.Ytigjppamjfnmcaa
open Go.ChangeShapes Go.WideShapes Go.ChangeAt Go.RowKit
set_option linter.unusedVariables false

/-- A slice of bytes that stands in w. -/
def bytesAt (w : World) (xs : List Int) (v : Value) : Prop := ∃ b, v = .slice (some ⟨b, 0, none⟩) xs.length xs.length ∧ b < w.heap.size ∧ ∀ i, i < xs.length → w.cell? ⟨b, i, none⟩ = some (.int .u8 (xs.getD i 0))

theorem bytesAt_since {w w' : World} {xs : List Int} {v : Value} (h : Since w w') (k : bytesAt w xs v) : bytesAt w' xs v := by
  obtain ⟨b, e, hb, hc⟩ := k
  exact ⟨b, e, Nat.lt_of_lt_of_le hb h.le, fun i hi => (Below.cell h (p := ⟨b, i, none⟩) hb).trans (hc i hi)⟩

theorem bytesAt_new2 (x : World) (a b : Int) (t : TypeId) : bytesAt (x.alloc (.cells #[.int .u8 a, .int .u8 b] t)) [a, b] (.slice (some ⟨x.heap.size, 0, none⟩) 2 2) := by
  refine ⟨x.heap.size, rfl, by simp, ?_⟩
  intro i hi
  rw [World.cell?_alloc_mark]
  match i, hi with
  | 0, _ => rfl
  | 1, _ => rfl

theorem bytesAt_new4 (x : World) (a b c d : Int) (t : TypeId) : bytesAt (x.alloc (.cells #[.int .u8 a, .int .u8 b, .int .u8 c, .int .u8 d] t)) [a, b, c, d] (.slice (some ⟨x.heap.size, 0, none⟩) 4 4) := by
  refine ⟨x.heap.size, rfl, by simp, ?_⟩
  intro i hi
  rw [World.cell?_alloc_mark]
  match i, hi with
  | 0, _ => rfl
  | 1, _ => rfl
  | 2, _ => rfl
  | 3, _ => rfl

theorem bytesAt_text {w : World} {xs : List Int} {v : Value} (k : bytesAt w xs v) : (convert 22 9 v).run Try.prog w = .ok (.string (strOfNums xs)) w := by
  obtain ⟨b, rfl, hb, hc⟩ := k
  refine run_convert_bytes_arg _ 22 5 Try.underlying22 Try.underlying5 b 0 _ _ xs rfl ?_ 9 Try.underlying9
  intro i hi
  rw [Nat.zero_add]
  exact hc i hi

end Go.Proofs.Ytigjppamjfnmcaa
