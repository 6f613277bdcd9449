/-
  Parts of a great struct read behind a guard.
-/
import Derived.Test.YtpkenhcglnognaaPart
namespace Go.Proofs.Ytpkenhcglnognaa
open Go.ChangeShapes Go.WideShapes Go.ChangeAt Go.RowKit
set_option linter.unusedVariables false
set_option maxRecDepth 10000

/-- A part read, behind a guard that says yes. -/
theorem want_part {ops : Array Oper} {rest : List Oper} {o : Oper} {a : Act} {w : World} {Q : Exit → Act → World → Prop} {b : Nat} {cs : Array Value} (B : Blk b w cs) (hg : Region.wanted o (yielded ops a.tmps) = true) {t : TypeId} {k : Nat} (T : IsBig t k) (x : Operand) (ho : o.op = .load t x) (i : Nat) (hx : a.eval x = .pointer (some ⟨b, i, none⟩))
    (ps : List Value) (hk : ps.length = k) (hp : ∀ j v, ps[j]? = some v → cs[i + j]? = some v) (h : wpList Try.prog ops Q rest (a.put o.dst (.agg ps.toArray)) w) : wpList Try.prog ops Q (o :: rest) a w := by
  obtain ⟨d, h1, h2⟩ := T.row
  exact want_plain hg fun _ hK => wp_load_mid t x ho b i hx ps d (fun j v hv => by rw [B.cell]; exact hp j v hv) h1 h2 (by rw [T.size, hk]) (hK _ _ h)
end Go.Proofs.Ytpkenhcglnognaa
