/-
  Contract of the laws' copying of a list of texts: a new list of the same texts.
-/
import Derived.Test.YthjdcgckonckoaaRow
import Derived.LoopTactic
namespace Go.Proofs.Ythjdcgckonckoaa
open Go.ChangeShapes Go.WideShapes Go.ChangeAt Go.RowKit
set_option linter.unusedVariables false

theorem txt_take_set (ss : List ByteArray) (n k : Nat) (hl : ss.length = n) (hk : k < n) : (ss.take k ++ List.replicate (n - k) ByteArray.empty).set k (txt ss k) = ss.take (k + 1) ++ List.replicate (n - (k + 1)) ByteArray.empty := by
  have hk' : k < ss.length := by omega
  have e : txt ss k = ss[k] := by simp [txt, List.getD, List.getElem?_eq_getElem hk']
  have h1 : List.replicate (n - k) ByteArray.empty = ByteArray.empty :: List.replicate (n - (k + 1)) ByteArray.empty := by
    rw [show n - k = (n - (k + 1)) + 1 by omega, List.replicate_succ]
  have hlen : (ss.take k).length = k := by rw [List.length_take]; omega
  have h2 : ss.take (k + 1) = ss.take k ++ [ss[k]] := by rw [List.take_succ_eq_append_getElem hk']
  rw [h1, h2, e]
  generalize ss.take k = l at hlen ⊢
  subst hlen
  simp

theorem made_texts {w : World} {B g n : Nat} (h : w.ownsRow B 9 1 (.slice (some ⟨g, 0, none⟩) n n) n (madeCells #[Value.string ByteArray.empty] n).toList) : Texts w B g n n (List.replicate n ByteArray.empty) := by
  refine ⟨by simp, ?_⟩
  have e : (madeCells #[Value.string ByteArray.empty] n).toList = (List.replicate n ByteArray.empty).map Value.string := by
    simp only [madeCells]
    apply List.ext_getElem?
    intro j
    by_cases hj : j < n
    · simp [hj, Nat.mod_one]
    · simp [hj]
  rw [← e]
  exact h
end Go.Proofs.Ythjdcgckonckoaa
