/-
  Lists of segments that grow.
  Parts of a great struct read behind a guard.
-/
import Derived.Test.YtlccnnoofbclcaaM11
import Derived.Test.YtlccnnoofbclcaaTabApp
import Derived.Test.YtlccnnoofbclcaaM9
namespace Go.Proofs.Ytlccnnoofbclcaa
open Go.ChangeShapes Go.WideShapes Go.ChangeAt Go.RowKit
set_option linter.unusedVariables false
set_option maxRecDepth 10000

theorem info_G : (Try.prog.info? 79).map (fun i => (i.zero, i.size, i.bytes)) = some (some (.agg #[.int .i64 0, .int .i64 0, .int .u32 0, .int .u32 0, .int .i64 0, .int .i64 0, .int .i64 0, .string ⟨#[]⟩]), 8, 64) := by kernel_rfl

theorem laidG : Laid shG 54 64 := by
  obtain ⟨ii, hi, hz0, hz1, hz2⟩ := info_parts info_G
  exact ⟨Try.underlying54, ii, _, hi, hz0, hz1, hz2, rfl⟩

theorem touch_grownG {w w' : World} {g n c : Nat} (h : w.grownBy w' (Value.slice (some ⟨g, 0, none⟩) n c).ownBlock) : Touch g w w' := ⟨h.os, h.tape, h.output, h.size, fun k hk hne => h.block k hk (by simp [Value.ownBlock]; omega)⟩

theorem own_or {g n c g' H : Nat} (h : (Value.slice (some ⟨g, 0, none⟩) n c).ownBlock = some g' ∨ g' = H) : g = g' ∨ g' = H := by
  rcases h with h | h
  · exact Or.inl (by simpa [Value.ownBlock] using h)
  · exact Or.inr h
end Go.Proofs.Ytlccnnoofbclcaa

namespace Go.Proofs.Ytlccnnoofbclcaa
open Go.ChangeShapes Go.WideShapes Go.ChangeAt Go.RowKit
set_option linter.unusedVariables false
set_option maxRecDepth 10000

/-- A part read, behind a guard that says yes. -/
theorem want_part {ops : Array Oper} {rest : List Oper} {o : Oper} {a : Act} {w : World} {Q : Exit → Act → World → Prop} {b : Nat} {cs : Array Value} (B : Blk b w cs) (hg : Region.wanted o (yielded ops a.tmps) = true) {t : TypeId} {k : Nat} (T : IsBig t k) (x : Operand) (ho : o.op = .load t x) (i : Nat) (hx : a.eval x = .pointer (some ⟨b, i, none⟩))
    (ps : List Value) (hk : ps.length = k) (hp : ∀ j v, ps[j]? = some v → cs[i + j]? = some v) (h : wpList Try.prog ops Q rest (a.put o.dst (.agg ps.toArray)) w) : wpList Try.prog ops Q (o :: rest) a w := by
  obtain ⟨d, h1, h2⟩ := T.row
  exact want_plain hg fun _ hK => wp_load_mid t x ho b i hx ps d (fun j v hv => by rw [B.cell]; exact hp j v hv) h1 h2 (by rw [T.size, hk]) (hK _ _ h)
end Go.Proofs.Ytlccnnoofbclcaa
