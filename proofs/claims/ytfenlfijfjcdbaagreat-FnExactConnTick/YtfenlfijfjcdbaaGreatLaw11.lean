/-
  The laws' functions over ends, as the laws of chapter 11 want them.
-/
import Derived.Test.YtfenlfijfjcdbaaGreatM5
import Derived.Test.YtfenlfijfjcdbaaGreatConnLaw
import Derived.Test.YtfenlfijfjcdbaaGreatM25
import Derived.Test.YtfenlfijfjcdbaaGreatM3
import Derived.Test.YtfenlfijfjcdbaaGreatStep
import Derived.Great.BuildSlice
namespace Go.Proofs.YtfenlfijfjcdbaaGreat
open Go.ChangeShapes Go.WideShapes Go.ChangeAt Go.RowKit Go.Deep
set_option linter.unusedVariables false
set_option maxRecDepth 10000
set_option maxRecDepth 10000

theorem lcn_big : IsBig 33 37 := ⟨⟨_, Tryz.underlying33, rfl⟩, by kernel_rfl⟩

theorem good_of {c : Cn} {ps : List (Int × ByteArray)} (u : WfC c ps) (h : (c.oD.size : Int) ≤ 1048576 ∧ (c.iD.size : Int) ≤ 1048576 ∧ (c.pn : Int) ≤ 1048576 ∧ ∀ i, i < c.pn → ((pAt ps i).2.size : Int) ≤ 1048576) : GoodC c ps :=
  ⟨isWord_wf u.v_iss, isWord_wf u.v_una, isWord_wf u.v_nxt, isWord_wf u.v_mx, isWord_wf u.v_wsq, isWord_wf u.v_wak, isWord_wf u.v_oF, isWord_wf u.v_fsq, isWord_wf u.v_cR, isWord_wf u.v_tsq, by omega,
   ⟨isWord_wf u.v_iN, by omega, by have := bounds_i64 u.v_iR; unfold IsInt; omega, by omega, fun i hi => ⟨isWord_wf (u.parts i hi).1, by have := h.2.2.2 i hi; omega⟩⟩⟩

theorem good_at {c : Cn} {ps : List (Int × ByteArray)} (g : GoodC c ps) (a : Option Addr) (p : Nat) : GoodC { c with pa := a, pc := p } ps :=
  ⟨g.w_iss, g.w_una, g.w_nxt, g.w_mx, g.w_wsq, g.w_wak, g.w_oF, g.w_fsq, g.w_cR, g.w_tsq, g.hod, g.gd⟩

theorem touch_grownP {w w' : World} {g n c : Nat} (h : w.grownBy w' (Value.slice (some ⟨g, 0, none⟩) n c).ownBlock) : Touch g w w' := ⟨h.os, h.tape, h.output, h.size, fun k hk hne => h.block k hk (by simp [Value.ownBlock]; omega)⟩

theorem eqCn (D : Cn) (g cp g' cp' : Nat) (ps : List (Int × ByteArray)) (hn : D.pn ≤ 1048576) (w : World) (R : Rd shP w (some ⟨g, 0, none⟩) D.pn ps) (Q : Rd shP w (some ⟨g', 0, none⟩) D.pn ps) :
    Calls Tryz.prog 8 #[.agg (cnCells { D with pa := some ⟨g, 0, none⟩, pc := cp }), .agg (cnCells { D with pa := some ⟨g', 0, none⟩, pc := cp' })] w fun e w' => e = .returned (.bool true) ∧ Since w w' :=
  eqConn { D with pa := some ⟨g, 0, none⟩, pc := cp } (some ⟨g', 0, none⟩) cp' ps hn w R Q

theorem markCn (D : Cn) (g cp B : Nat) (ps : List (Int × ByteArray)) (k : Int) (hk0 : 1 ≤ k) (hk1 : k + 2 * D.pn ≤ 1073741824) (w : World) (T : Held shP w B g D.pn cp ps) :
    Calls Tryz.prog 10 #[.agg (cnCells { D with pa := some ⟨g, 0, none⟩, pc := cp }), .int .i64 k] w fun e w' => e = .returned (.int .i64 (k + 2 * D.pn)) ∧ Touch g w w' ∧ ∃ ms, MarkedP k D.pn ms ∧ Held shP w' B g D.pn cp ms :=
  (markConn { D with pa := some ⟨g, 0, none⟩, pc := cp } B ps k hk0 hk1 w T).mono fun e w' ⟨h, ⟨x, s, gr⟩, ms, m, o⟩ => ⟨h, (Touch.of_since s g).trans (touch_grownP gr), ms, m, o⟩

theorem heldCn (D : Cn) (g cp B : Nat) (ms : List (Int × ByteArray)) (k : Int) (hk0 : 1 ≤ k) (hk1 : k + 2 * D.pn ≤ 1073741824) (w : World) (T : Held shP w B g D.pn cp ms) (hM : MarkedP k D.pn ms) :
    Calls Tryz.prog 12 #[.agg (cnCells { D with pa := some ⟨g, 0, none⟩, pc := cp }), .int .i64 k] w fun e w' => e = .returned (.int .i64 (k + 2 * D.pn)) ∧ Since w w' :=
  heldConn { D with pa := some ⟨g, 0, none⟩, pc := cp } ms k hk0 hk1 w T.reads hM
end Go.Proofs.YtfenlfijfjcdbaaGreat
