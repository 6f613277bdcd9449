/-
  An end that came in as data, opened.
-/
import Derived.Test.YtpkenhcglnognaaConn
import Derived.Test.YtpkenhcglnognaaOpenIn
namespace Go.Proofs.Ytpkenhcglnognaa
open Go.ChangeShapes Go.WideShapes Go.ChangeAt Go.RowKit Go.Deep
set_option linter.unusedVariables false
set_option maxRecDepth 10000
set_option linter.unusedSimpArgs false

/-- The cells of an end that came in are in their kinds' bounds. -/
structure WfC (c : Cn) (ps : List (Int × ByteArray)) : Prop where
  v_st : (Lit.int .i64 c.st).wf = true
  v_iss : (Lit.int .u32 c.iss).wf = true
  v_una : (Lit.int .u32 c.una).wf = true
  v_nxt : (Lit.int .u32 c.nxt).wf = true
  v_mx : (Lit.int .u32 c.mx).wf = true
  v_wnd : (Lit.int .i64 c.wnd).wf = true
  v_wsq : (Lit.int .u32 c.wsq).wf = true
  v_wak : (Lit.int .u32 c.wak).wf = true
  v_oF : (Lit.int .u32 c.oF).wf = true
  v_oD : c.oD.size ≤ maxLen
  v_oR : (Lit.int .i64 c.oR).wf = true
  v_iN : (Lit.int .u32 c.iN).wf = true
  v_iD : c.iD.size ≤ maxLen
  v_iR : (Lit.int .i64 c.iR).wf = true
  v_fsq : (Lit.int .u32 c.fsq).wf = true
  v_rS : (Lit.int .i64 c.rS).wf = true
  v_rV : (Lit.int .i64 c.rV).wf = true
  v_rD : (Lit.int .i64 c.rD).wf = true
  v_cX : (Lit.int .i64 c.cX).wf = true
  v_cT : (Lit.int .i64 c.cT).wf = true
  v_cD : (Lit.int .i64 c.cD).wf = true
  v_cR : (Lit.int .u32 c.cR).wf = true
  v_tsq : (Lit.int .u32 c.tsq).wf = true
  v_tat : (Lit.int .i64 c.tat).wf = true
  v_agn : (Lit.int .i64 c.agn).wf = true
  v_prb : (Lit.int .i64 c.prb).wf = true
  v_rst : (Lit.int .i64 c.rst).wf = true
  v_trs : (Lit.int .i64 c.trs).wf = true
  v_why : (Lit.int .i64 c.why).wf = true
  parts : ∀ i, i < c.pn → (Lit.int .u32 (pAt ps i).1).wf = true ∧ (pAt ps i).2.size ≤ maxLen
end Go.Proofs.Ytpkenhcglnognaa
