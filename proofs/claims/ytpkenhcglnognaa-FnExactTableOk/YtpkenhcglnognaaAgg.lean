/-
  A struct of one-cell fields, by value: opened and shut, however many fields it has.
-/
import Derived.Test.YtpkenhcglnognaaRows
import Derived.WalkKit
import Derived.ProofKit
import Derived.OpenShut
import Derived.ShutString
import Derived.Deep.Fields
namespace Go.Proofs.Ytpkenhcglnognaa
open Go.ChangeShapes Go.WideShapes Go.ChangeAt Go.RowKit Go.Deep
set_option linter.unusedVariables false
set_option maxRecDepth 10000

theorem open_aggs {H : Type} {enc : TypeId × Value → H} {P : Program} {w : World} {base : Nat} {spare : Nat → Bool} {held : Bool} {r : Reach} {b0 : Nat} {t : TypeId} {fs : Array Field} {v : Value} {d : DataW H} {p : List MemPlace}
    (hs : P.underlying t = some (.struct fs)) (hone : oneCellFields P fs = true) (hC : P.cellsOf t = fs.size) (hv : Value.okWide P w r b0 t v) (h : DataW.Trod enc P w base spare held t v d p) :
    ∃ (cs : Array Value) (ys : List (DataW H × List MemPlace)) (n : Nat), v = .agg cs ∧ cs.size = fs.size ∧ d = .agg (ys.map (·.1)) ∧ p = ys.flatMap (·.2) ∧ ys.length = fs.size ∧
      ∀ (i : Nat) (f : Field), fs[i]? = some f → ∀ (c : Value) (y : DataW H × List MemPlace), cs[i]? = some c → ys[i]? = some y → DataW.trod enc P w base spare held n f.type [c] = some y := by
  obtain ⟨cs, rfl, hsz⟩ := okWide_struct hs hv
  obtain ⟨fuel, hf⟩ := h
  obtain ⟨ys, n, _, hx, _, hlen, hg⟩ := DataW.trod_struct hs hf
  simp only [Prod.mk.injEq] at hx
  refine ⟨cs, ys, n, rfl, hsz.trans hC, hx.1, hx.2, hlen, ?_⟩
  intro i f hi c y hc hy
  obtain ⟨o, k⟩ := hone_of hone i f hi
  have e := hg i f hi
  rw [o, k, hy] at e
  have hc' : ((Value.agg cs).cells.toList.drop i).take 1 = [c] := by
    have hl : i < cs.size := (Array.getElem?_eq_some_iff.1 hc).1
    have hcell : (Value.agg cs).cells = cs := rfl
    rw [hcell, List.drop_eq_getElem_cons (by simpa using hl), List.take_succ_cons, List.take_zero]
    have := (Array.getElem?_eq_some_iff.1 hc).2
    simp [this]
  rw [hc'] at e
  exact e
end Go.Proofs.Ytpkenhcglnognaa
