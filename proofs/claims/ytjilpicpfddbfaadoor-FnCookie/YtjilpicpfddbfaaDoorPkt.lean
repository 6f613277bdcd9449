/-
  Contracts of impl's and spec's PacketOk, and of the laws' copying of a packet, at every packet.
-/
import Derived.Test.YtjilpicpfddbfaaDoorFold
import Derived.Laws.ByValue
namespace Go.Proofs.YtjilpicpfddbfaaDoor
open Go.ChangeShapes Go.WideShapes Go.ChangeAt Go.RowKit
set_option linter.unusedVariables false
set_option maxRecDepth 10000

/-- Nothing of what was there has turned. -/
def Since (a b : World) : Prop := Below a.heap.size a b

theorem ret_bool {b c : Bool} (h : b = c) : Ending.returned (Value.bool b) = Ending.returned (Value.bool c) := by rw [h]

theorem ret_int {b c : Int} (h : b = c) : Ending.returned (Value.int .i64 b) = Ending.returned (Value.int .i64 c) := by rw [h]

theorem Since.refl (w : World) : Since w w := Below.refl _ _

theorem Since.trans {a b c : World} (h : Since a b) (k : Since b c) : Since a c := Below.trans h (Below.mono k (Below.size h))

theorem Since.drew {a b : World} (h : Since a b) : Since a b.drew := Below.drew h

theorem Since.alloc {a b : World} (h : Since a b) (o : Obj) : Since a (b.alloc o) := Below.alloc h (Below.size h) o

theorem Since.of {a b : World} (h : Newer a b) : Since a b := h.2

theorem Since.le {a b : World} (h : Since a b) : a.heap.size ≤ b.heap.size := Below.size h

theorem kept6 {w w' : World} {c0 c1 c2 c3 c4 c5 : Value} {t : TypeId} (h : Since (w.alloc (.cells #[c0, c1, c2, c3, c4, c5] t)) w') :
    w'.cell? ⟨w.heap.size, 0, none⟩ = some c0 ∧ w'.cell? ⟨w.heap.size, 1, none⟩ = some c1 ∧ w'.cell? ⟨w.heap.size, 2, none⟩ = some c2 ∧
    w'.cell? ⟨w.heap.size, 3, none⟩ = some c3 ∧ w'.cell? ⟨w.heap.size, 4, none⟩ = some c4 ∧ w'.cell? ⟨w.heap.size, 5, none⟩ = some c5 := by
  have k : ∀ i : Nat, w'.cell? ⟨w.heap.size, i, none⟩ = #[c0, c1, c2, c3, c4, c5][i]? := fun i => by
    rw [Below.cell h (p := ⟨w.heap.size, i, none⟩) (by simp)]
    exact World.cell?_alloc_mark w _ _ _ i
  exact ⟨k 0, k 1, k 2, k 3, k 4, k 5⟩

/-- A packet as a value. -/
def pktVal (src dst id ttl proto : Int) (d : ByteArray) : Value := .agg #[.int .u32 src, .int .u32 dst, .int .i64 id, .int .i64 ttl, .int .i64 proto, .string d]

/-- What PacketOk answers. -/
def pktOk (id ttl proto : Int) (d : ByteArray) : Bool := decide (0 ≤ id ∧ id ≤ 65535) && (decide (0 ≤ ttl ∧ ttl ≤ 255) && (decide (0 ≤ proto ∧ proto ≤ 255) && decide (d.size ≤ 1980)))
end Go.Proofs.YtjilpicpfddbfaaDoor
