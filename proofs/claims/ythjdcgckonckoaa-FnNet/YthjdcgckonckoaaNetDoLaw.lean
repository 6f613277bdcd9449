/-
  What the law of NetDo needs besides: an op copied; how long a net is behind an op; a row and a variable are not one block.
-/
import Derived.Test.YthjdcgckonckoaaNet
import Derived.Test.YthjdcgckonckoaaNetBox
import Derived.Test.YthjdcgckonckoaaNetDoSAll
import Derived.Laws.ByValue
namespace Go.Proofs.Ythjdcgckonckoaa
open Go.ChangeShapes Go.WideShapes Go.ChangeAt Go.RowKit
set_option linter.unusedVariables false

/-- An op as a value. -/
def opVal (k a h t : Int) : Value := .agg #[.int .i64 k, .int .i64 a, .int .i64 h, .int .i64 t]

theorem netDo_len (ss : List ByteArray) (k a h t : Int) : (netDo ss k a h t).1.length ≤ ss.length + 1 := by
  unfold netDo
  split
  · unfold befallen without
    repeat (split; · (try split) <;> simp <;> omega)
    simp
  · simp

theorem IsNet.put {B n cap b : Nat} {ss : List ByteArray} {x : World} {v u u' : Value} (h : IsNet B n cap ss x v) (hb : x.heap[b]? = some (.cells #[u] 26 (0, 0))) : IsNet B n cap ss (x.setCell ⟨b, 0, none⟩ u') v := by
  obtain ⟨g, e, T⟩ := h
  exact ⟨g, e, T.other (T.ne_box hb) 0 _⟩
end Go.Proofs.Ythjdcgckonckoaa
