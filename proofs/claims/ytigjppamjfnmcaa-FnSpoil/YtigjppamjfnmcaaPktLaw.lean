/-
  GetPacket of both sides in one form; the laws' comparison of two packets; impl's and spec's Hop.
-/
import Derived.Test.YtigjppamjfnmcaaGetPkt
import Derived.Test.YtigjppamjfnmcaaSpecGetPkt
namespace Go.Proofs.Ytigjppamjfnmcaa
open Go.ChangeShapes Go.WideShapes Go.ChangeAt Go.RowKit
set_option linter.unusedVariables false
set_option maxRecDepth 10000

theorem implGet (s : ByteArray) (ok : Bool) (hok : isPkt s ↔ ok = true) (w : World) :
    Calls Try.prog 25 #[.string s] w fun e w' => e = .returned (getVal ok s) ∧ Since w w' := by
  cases ok
  · exact implGetBad s (fun h => by simpa using hok.1 h) w
  · exact implGetGood s (hok.2 rfl) w

theorem pkt_dec (s : ByteArray) : ∃ ok : Bool, isPkt s ↔ ok = true := by
  by_cases h : isPkt s
  · exact ⟨true, by simp [h]⟩
  · exact ⟨false, by simp [h]⟩

theorem getVal_form (ok : Bool) (s : ByteArray) : ∃ a b c d e f, getVal ok s = .tuple #[.agg #[.int .u32 a, .int .u32 b, .int .i64 c, .int .i64 d, .int .i64 e, .string f], .bool ok] := by
  cases ok
  · exact ⟨_, _, _, _, _, _, rfl⟩
  · exact ⟨_, _, _, _, _, _, rfl⟩
end Go.Proofs.Ytigjppamjfnmcaa
