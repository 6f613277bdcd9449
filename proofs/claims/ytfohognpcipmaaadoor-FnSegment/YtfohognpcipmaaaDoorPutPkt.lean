/-
  Contracts of impl's PutPacket, at every packet.
-/
import Derived.Test.YtfohognpcipmaaaDoorTwo
import Derived.Test.YtfohognpcipmaaaDoorCalm
namespace Go.Proofs.YtfohognpcipmaaaDoor
open Go.ChangeShapes Go.WideShapes Go.ChangeAt Go.RowKit
set_option linter.unusedVariables false

/-- The first ten bytes of a header. -/
def aheadOf (id ttl proto : Int) (n : Int) : ByteArray := two 17664 ++ two (20 + n) ++ two id ++ two 16384 ++ two (ttl * 256 + proto)

theorem aheadOf_size (id ttl proto n : Int) : (aheadOf id ttl proto n).size = 10 := by
  simp only [aheadOf, ByteArray.size_append, two_size]

/-- Its last eight. -/
def behindOf (src dst : Int) : ByteArray := wordT src ++ wordT dst

theorem behindOf_size (src dst : Int) : (behindOf src dst).size = 8 := by
  simp only [behindOf, ByteArray.size_append, wordT_size]

/-- The bytes of a packet. -/
def putOf (src dst id ttl proto : Int) (d : ByteArray) : ByteArray :=
  if pktOk id ttl proto d = true then aheadOf id ttl proto d.size ++ two (checksum (aheadOf id ttl proto d.size ++ two 0 ++ behindOf src dst)) ++ behindOf src dst ++ d else ⟨#[]⟩

theorem or_ttl (x y : Int) (hx : 0 ≤ x ∧ x ≤ 255) (hy : 0 ≤ y ∧ y ≤ 255) : bits .or .i64 (x * 256) y = x * 256 + y := by
  exact bits_join .i64 32 (by decide) (fun n h2 h3 => by rw [IntWalk.i64_left]; exact IntWalk.wrap64_in _ ⟨by omega, by omega⟩) 8 (x * 256) y (by omega) (by omega) (by omega) (by omega) (by omega) (by omega)
end Go.Proofs.YtfohognpcipmaaaDoor
