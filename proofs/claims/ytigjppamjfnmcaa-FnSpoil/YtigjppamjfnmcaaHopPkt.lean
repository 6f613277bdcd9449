/-
  Contracts of impl's and spec's Hop, at every text of at most 1048576 bytes.
-/
import Derived.Test.YtigjppamjfnmcaaPktLaw
namespace Go.Proofs.Ytigjppamjfnmcaa
open Go.ChangeShapes Go.WideShapes Go.ChangeAt Go.RowKit
set_option linter.unusedVariables false
set_option maxRecDepth 10000

/-- What a router sends on. -/
def hopText (s : ByteArray) : ByteArray := putOf (wordAt s 12) (wordAt s 16) (halfAt s 4) (byteAt s 8 - 1) (byteAt s 9) (s.extract 20 s.size)

/-- What Hop answers. -/
def hopVal (ok : Bool) (s : ByteArray) : Value := if ok = true ∧ 2 ≤ byteAt s 8 then .tuple #[.string (hopText s), .bool true] else .tuple #[.string ⟨#[]⟩, .bool false]

theorem getVal_bad (s : ByteArray) : getVal false s = .tuple #[.agg #[.int .u32 0, .int .u32 0, .int .i64 0, .int .i64 0, .int .i64 0, .string ⟨#[]⟩], .bool false] := rfl

theorem getVal_good (s : ByteArray) : getVal true s = .tuple #[.agg #[.int .u32 (wordAt s 12), .int .u32 (wordAt s 16), .int .i64 (halfAt s 4), .int .i64 (byteAt s 8), .int .i64 (byteAt s 9), .string (s.extract 20 s.size)], .bool true] := rfl

theorem hopVal_form (ok : Bool) (s : ByteArray) : ∃ (t : ByteArray) (b : Bool), hopVal ok s = .tuple #[.string t, .bool b] := by
  unfold hopVal
  split
  · exact ⟨_, _, rfl⟩
  · exact ⟨_, _, rfl⟩
end Go.Proofs.Ytigjppamjfnmcaa
