/-
  Lists of segments that grow.
-/
import Derived.Test.YtoadnhkbejnimaaSegTab
import Derived.Test.YtoadnhkbejnimaaTabApp
import Derived.Test.YtoadnhkbejnimaaPart
namespace Go.Proofs.Ytoadnhkbejnimaa
open Go.ChangeShapes Go.WideShapes Go.ChangeAt Go.RowKit
set_option linter.unusedVariables false
set_option maxRecDepth 10000

theorem info_G : (Try.prog.info? 58).map (fun i => (i.zero, i.size, i.bytes)) = some (some (.agg #[.int .i64 0, .int .i64 0, .int .u32 0, .int .u32 0, .int .i64 0, .int .i64 0, .int .i64 0, .string ⟨#[]⟩]), 8, 64) := by kernel_rfl

theorem laidG : Laid shG 34 64 := by
  obtain ⟨ii, hi, hz0, hz1, hz2⟩ := info_parts info_G
  exact ⟨Try.underlying34, ii, _, hi, hz0, hz1, hz2, rfl⟩

theorem touch_grownG {w w' : World} {g n c : Nat} (h : w.grownBy w' (Value.slice (some ⟨g, 0, none⟩) n c).ownBlock) : Touch g w w' := ⟨h.os, h.tape, h.output, h.size, fun k hk hne => h.block k hk (by simp [Value.ownBlock]; omega)⟩

theorem own_or {g n c g' H : Nat} (h : (Value.slice (some ⟨g, 0, none⟩) n c).ownBlock = some g' ∨ g' = H) : g = g' ∨ g' = H := by
  rcases h with h | h
  · exact Or.inl (by simpa [Value.ownBlock] using h)
  · exact Or.inr h
end Go.Proofs.Ytoadnhkbejnimaa
