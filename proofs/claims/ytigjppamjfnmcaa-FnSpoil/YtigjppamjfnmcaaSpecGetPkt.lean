/-
  Contract of spec's GetPacket, at every text of at most 1048576 bytes.
-/
import Derived.Test.YtigjppamjfnmcaaSpecPutPkt
import Derived.Test.YtigjppamjfnmcaaDrawnLast
import Derived.Test.YtigjppamjfnmcaaPktFacts
import Derived.Test.YtigjppamjfnmcaaShows
namespace Go.Proofs.Ytigjppamjfnmcaa
open Go.ChangeShapes Go.WideShapes Go.ChangeAt Go.RowKit
set_option linter.unusedVariables false
set_option maxRecDepth 10000

/-- A pointer to a zero packet in a block from B on. -/
def newPkt (B : Nat) (x : World) (v : Value) : Prop := ∃ b, v = .pointer (some ⟨b, 0, none⟩) ∧ B ≤ b ∧ b < x.heap.size ∧ (∀ i, x.frozen? ⟨b, i, none⟩ = false) ∧ x.cell? ⟨b, 0, none⟩ = some (.int .u32 0) ∧ x.cell? ⟨b, 1, none⟩ = some (.int .u32 0) ∧ x.cell? ⟨b, 2, none⟩ = some (.int .i64 0) ∧ x.cell? ⟨b, 3, none⟩ = some (.int .i64 0) ∧ x.cell? ⟨b, 4, none⟩ = some (.int .i64 0) ∧ x.cell? ⟨b, 5, none⟩ = some (.string ⟨#[]⟩)

theorem newPkt_since {B : Nat} {x x' : World} {v : Value} (h : Since x x') (k : newPkt B x v) : newPkt B x' v := by
  obtain ⟨b, e, hB, hb, hf, c0, c1, c2, c3, c4, c5⟩ := k
  have hc : ∀ i, x'.cell? ⟨b, i, none⟩ = x.cell? ⟨b, i, none⟩ := fun i => Below.cell h (p := ⟨b, i, none⟩) hb
  exact ⟨b, e, hB, Nat.lt_of_lt_of_le hb h.le, fun i => (Below.frozen h (p := ⟨b, i, none⟩) hb).trans (hf i), (hc 0).trans c0, (hc 1).trans c1, (hc 2).trans c2, (hc 3).trans c3, (hc 4).trans c4, (hc 5).trans c5⟩

theorem newPkt_new {B : Nat} (x : World) (hB : B ≤ x.heap.size) (t : TypeId) : newPkt B (x.alloc (.cells #[.int .u32 0, .int .u32 0, .int .i64 0, .int .i64 0, .int .i64 0, .string ⟨#[]⟩] t)) (.pointer (some ⟨x.heap.size, 0, none⟩)) :=
  ⟨x.heap.size, rfl, hB, by simp, fun i => by simp, by simp, by simp, by simp, by simp, by simp, by simp⟩

/-- What GetPacket answers. -/
def getVal (ok : Bool) (s : ByteArray) : Value := .tuple #[if ok then readVal s else pktVal 0 0 0 0 0 ⟨#[]⟩, .bool ok]
end Go.Proofs.Ytigjppamjfnmcaa
