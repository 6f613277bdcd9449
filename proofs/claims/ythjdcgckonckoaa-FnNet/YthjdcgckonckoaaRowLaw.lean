/-
  Contracts of the laws' holding of two lists of texts against each other, of their marking of a list and of their looking for the marks.
-/
import Derived.Test.YthjdcgckonckoaaMark
import Derived.Test.YthjdcgckonckoaaCalm
import Derived.Test.YthjdcgckonckoaaShows
namespace Go.Proofs.Ythjdcgckonckoaa
open Go.ChangeShapes Go.WideShapes Go.ChangeAt Go.RowKit
set_option linter.unusedVariables false

theorem txt_ext {ss ts : List ByteArray} {n : Nat} (h1 : ss.length = n) (h2 : ts.length = n) (h : ∀ i, i < n → txt ss i = txt ts i) : ss = ts := by
  apply List.ext_getElem (by omega)
  intro i hi hi'
  have := h i (by omega)
  simpa [txt, List.getD, List.getElem?_eq_getElem hi, List.getElem?_eq_getElem hi'] using this

theorem since_drewN {w x : World} (h : Since w x) (n : Nat) : Since w (x.drewN n) := ⟨h.os, h.tape, h.output, h.size, h.block⟩
end Go.Proofs.Ythjdcgckonckoaa
