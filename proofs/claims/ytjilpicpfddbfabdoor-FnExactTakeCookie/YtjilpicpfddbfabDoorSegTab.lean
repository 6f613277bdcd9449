/-
  A segment as a value, and lists of segments.
-/
import Derived.Test.YtjilpicpfddbfabDoorBig
import Derived.Test.YtjilpicpfddbfabDoorSeg
import Derived.Deep.WholeRow
namespace Go.Proofs.YtjilpicpfddbfabDoor
open Go.ChangeShapes Go.WideShapes Go.ChangeAt Go.RowKit
set_option linter.unusedVariables false
set_option maxRecDepth 10000

/-- A segment. -/
structure Sg where
  fr : Int
  tt : Int
  sq : Int
  ak : Int
  fl : Int
  wn : Int
  ms : Int
  d : ByteArray

/-- Its cells. -/
def sgCells (s : Sg) : Array Value := #[.int .i64 s.fr, .int .i64 s.tt, .int .u32 s.sq, .int .u32 s.ak, .int .i64 s.fl, .int .i64 s.wn, .int .i64 s.ms, .string s.d]

/-- It as a value. -/
def sgVal (s : Sg) : Value := .agg (sgCells s)

/-- The segment of which nothing is known. -/
def sgZero : Sg := ⟨0, 0, 0, 0, 0, 0, 0, ByteArray.empty⟩

theorem sg_zero : #[.int .i64 0, .int .i64 0, .int .u32 0, .int .u32 0, .int .i64 0, .int .i64 0, .int .i64 0, .string ⟨#[]⟩] = sgCells sgZero := rfl

theorem seg_big : IsBig 28 8 := ⟨⟨_, Tryd.underlying28, rfl⟩, by kernel_rfl⟩

theorem seg_one (fr tt sq ak fl wn ms : Int) (d : ByteArray) : (#[.int .i64 fr, .int .i64 tt, .int .u32 sq, .int .u32 ak, .int .i64 fl, .int .i64 wn, .int .i64 ms, .string d] : Array Value).all (·.oneCell') = true := by
  rw [Array.all_eq_true_iff_forall_mem]
  intro v hv
  simp only [List.mem_toArray, List.mem_cons, List.not_mem_nil, or_false] at hv
  rcases hv with h | h | h | h | h | h | h | h <;> rw [h] <;> rfl
end Go.Proofs.YtjilpicpfddbfabDoor
