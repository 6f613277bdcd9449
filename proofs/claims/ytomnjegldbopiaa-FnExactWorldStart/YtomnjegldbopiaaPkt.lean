/-
  Contracts of impl's and spec's PacketOk, and of the laws' copying of a packet, at every packet.
-/
import Derived.Test.YtomnjegldbopiaaFold
import Derived.Laws.ByValue
namespace Go.Proofs.Ytomnjegldbopiaa
open Go.ChangeShapes Go.WideShapes Go.ChangeAt Go.RowKit
set_option linter.unusedVariables false
set_option maxRecDepth 10000

/-- Nothing of what was there has turned. -/
def Since (a b : World) : Prop := Below a.heap.size a b

theorem ret_bool {b c : Bool} (h : b = c) : Ending.returned (Value.bool b) = Ending.returned (Value.bool c) := by rw [h]

theorem ret_int {b c : Int} (h : b = c) : Ending.returned (Value.int .i64 b) = Ending.returned (Value.int .i64 c) := by rw [h]

theorem Since.refl (w : World) : Since w w := Below.refl _ _

theorem Since.trans {a b c : World} (h : Since a b) (k : Since b c) : Since a c := Below.trans h (Below.mono k (Below.size h))

theorem Since.drew {a b : World} (h : Since a b) : Since a b.drew := Below.drew h

theorem Since.alloc {a b : World} (h : Since a b) (o : Obj) : Since a (b.alloc o) := Below.alloc h (Below.size h) o

theorem Since.of {a b : World} (h : Newer a b) : Since a b := h.2

theorem Since.le {a b : World} (h : Since a b) : a.heap.size ≤ b.heap.size := Below.size h
end Go.Proofs.Ytomnjegldbopiaa
