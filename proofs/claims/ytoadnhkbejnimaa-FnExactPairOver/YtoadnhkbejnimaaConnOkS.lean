/-
  What ConnOk answers, and spec's ConnOk, at every end.
-/
import Derived.Test.YtoadnhkbejnimaaConn
import Derived.Test.YtoadnhkbejnimaaRttB
import Derived.Test.YtoadnhkbejnimaaCong
import Derived.Test.YtoadnhkbejnimaaOut
import Derived.Test.YtoadnhkbejnimaaInOkS
import Derived.Deep.DeepCutAuto
namespace Go.Proofs.Ytoadnhkbejnimaa
open Go.ChangeShapes Go.WideShapes Go.ChangeAt Go.RowKit
set_option linter.unusedVariables false
set_option maxRecDepth 10000

/-- What ConnOk answers. -/
def connOk (c : Cn) (ps : List (Int × ByteArray)) : Bool :=
  decide (0 ≤ c.st ∧ c.st ≤ 9) && (
  outOk c.oD c.oR && (
  inOk c.iN c.iD c.iR ps && (
  rttOk c.rA c.rS c.rV c.rD && (
  congOk c.cX c.cT c.cD && (
  decide (0 ≤ c.wnd ∧ c.wnd ≤ 65535) && (
  decide (0 ≤ c.trs ∧ c.trs ≤ 10) && (
  decide (0 ≤ c.why ∧ c.why ≤ 4) && (
  decide (0 ≤ distI c.una c.nxt ∧ distI c.una c.nxt ≤ 4098) && (
  decide (0 ≤ distI c.una c.mx ∧ distI c.una c.mx ≤ 4098) && (
  decide (0 ≤ distI c.nxt c.mx) && (
  decide (0 ≤ c.agn ∧ c.agn ≤ 2000000000) && (
  decide (0 ≤ c.prb ∧ c.prb ≤ 2000000000) && (
  decide (0 ≤ c.rst ∧ c.rst ≤ 2000000000) && (
  decide (0 ≤ c.tat ∧ c.tat ≤ 2000000000) && (
  (decide (c.oF = c.una) || (decide (c.st = 1 ∨ c.st = 2 ∨ c.st = 0) && decide (c.oF = (c.una + 1) % 4294967296) || c.fsn && decide (c.oF = (c.una - 1) % 4294967296))))))))))))))))))

/-- What is known of an end that came in: words are words, texts are no longer than the laws let in. -/
structure GoodC (c : Cn) (ps : List (Int × ByteArray)) : Prop where
  w_iss : IsWord c.iss
  w_una : IsWord c.una
  w_nxt : IsWord c.nxt
  w_mx : IsWord c.mx
  w_wsq : IsWord c.wsq
  w_wak : IsWord c.wak
  w_oF : IsWord c.oF
  w_fsq : IsWord c.fsq
  w_cR : IsWord c.cR
  w_tsq : IsWord c.tsq
  hod : c.oD.size ≤ 1048576
  gd : Good c.iN c.iD c.iR c.pn ps
end Go.Proofs.Ytoadnhkbejnimaa
