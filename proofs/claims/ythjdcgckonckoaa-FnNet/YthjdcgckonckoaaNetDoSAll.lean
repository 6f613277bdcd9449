/-
  Contract of spec's NetDo, at every op.
-/
import Derived.Test.YthjdcgckonckoaaNetDoS0
import Derived.Test.YthjdcgckonckoaaNetDoS1
import Derived.Test.YthjdcgckonckoaaNetDoS2
import Derived.Test.YthjdcgckonckoaaNetDoS3
import Derived.Test.YthjdcgckonckoaaNetDoS4
import Derived.Test.YthjdcgckonckoaaNetDoSx
namespace Go.Proofs.Ythjdcgckonckoaa
open Go.ChangeShapes Go.WideShapes Go.ChangeAt Go.RowKit
set_option linter.unusedVariables false

theorem specNetDo (B g n cap : Nat) (ss : List ByteArray) (kind at_ half turn : Int) (hn : n ≤ 1048576) (w : World) (T : Texts w B g n cap ss) :
    Calls Try.prog 21 #[.agg #[.slice (some ⟨g, 0, none⟩) n cap], .agg #[.int .i64 kind, .int .i64 at_, .int .i64 half, .int .i64 turn]] w fun e w' => ∃ g' m c, e = .returned (.tuple #[.agg #[.slice (some ⟨g', 0, none⟩) m c], .string (netDo ss kind at_ half turn).2.1, .bool (netDo ss kind at_ half turn).2.2]) ∧ Texts w' w.heap.size g' m c (netDo ss kind at_ half turn).1 ∧ Since w w' := by
  by_cases h0 : kind = 0
  · exact specNetDo0 B g n cap ss kind at_ half turn hn h0 w T
  by_cases h1 : kind = 1
  · exact specNetDo1 B g n cap ss kind at_ half turn hn h1 w T
  by_cases h2 : kind = 2
  · exact specNetDo2 B g n cap ss kind at_ half turn hn h2 w T
  by_cases h3 : kind = 3
  · exact specNetDo3 B g n cap ss kind at_ half turn hn h3 w T
  by_cases h4 : kind = 4
  · exact specNetDo4 B g n cap ss kind at_ half turn hn h4 w T
  exact specNetDox B g n cap ss kind at_ half turn hn ⟨h0, h1, h2, h3, h4⟩ w T
end Go.Proofs.Ythjdcgckonckoaa
