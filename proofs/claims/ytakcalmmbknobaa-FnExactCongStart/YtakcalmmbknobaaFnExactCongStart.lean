/-
  Proved: at every argument impl.CongStart answers as spec.CongStart (the law FnExactCongStart returns true, and its arguments read as before); no condition.
-/
import Derived.Test.YtakcalmmbknobaaRows
import Derived.Test.YtakcalmmbknobaaOpenCong
import Derived.Test.YtakcalmmbknobaaCongS
import Derived.WalkKit
import Derived.ProofKit
import Derived.OpenShut
import Derived.ShutString
import Derived.ChangeOld
import Derived.Below
import Derived.Carry
namespace Go.Proofs.Ytakcalmmbknobaa.fnExactCongStart
open Go.ChangeShapes Go.WideShapes Go.ChangeAt Go.RowKit
open Go.ChangeMaps (open_string shut_string)
set_option linter.unusedVariables false

theorem own : ownKnob Try.prog.godebug = none := by kernel_rfl
theorem laidOut : laidOutB Try.prog = true := by kernel_rfl

theorem walk (b0 : Int) (w : World) (x0 : (Lit.int .i64 b0).wf = true) :
    Calls Try.prog 4 #[.int .i64 b0] w fun e w' => e = .returned (.bool true) ∧ Below w.heap.size w w' := by
  have G := Since.refl w
  have hs := fun wx => specStart b0 wx
  have hi := fun wx => implStart b0 wx
  generalize min (max b0 200) 8000 = Y at hs hi
  have he := fun wx => eqCong 200 Y 0 false 0 wx
  unfold congVal at *
  go_enter Try.func4, Try.ntmps4
  go_wp2_with (fail)
  refine (hs _).mono ?_
  rintro _ w1 ⟨rfl, g1⟩
  replace G := G.trans g1
  have X0 := Blk.new w1 #[.int .i64 200, .int .i64 Y, .int .i64 0, .bool false, .int .u32 0] 26
  have g1' := (Since.refl w1).alloc (.cells #[.int .i64 200, .int .i64 Y, .int .i64 0, .bool false, .int .u32 0] 26)
  replace G := G.trans g1'
  go_wp2_with (fail)
  refine (hi _).mono ?_
  rintro _ w2 ⟨rfl, g2⟩
  replace G := G.trans g2
  replace X0 := X0.since g2
  have g2' := (Since.refl w2).alloc (.cells #[.int .i64 200, .int .i64 Y, .int .i64 0, .bool false, .int .u32 0] 26)
  replace G := G.trans g2'
  replace X0 := X0.since g2'
  have cX0 := X0.cell 0
  have cX1 := X0.cell 1
  have cX2 := X0.cell 2
  have cX3 := X0.cell 3
  have cX4 := X0.cell 4
  simp at cX0 cX1 cX2 cX3 cX4
  go_wp2_with (fail)
  refine (he _).mono ?_
  rintro _ w3 ⟨rfl, g3⟩
  replace G := G.trans g3
  go_wp2_with (fail)
  go_ret
  exact ⟨rfl, G⟩

set_option maxRecDepth 100000 in
theorem lifted (os : Os) (started : os.Started) (H : Type) (enc : TypeId × Value → H) :
    ReturnsInHanded {} Try.checked os 4 .any (Rows.fnExactCongStartSpec.pre6 enc Try.prog Try.f4 Rows.fnExactCongStartRow.domain false) (Rows.fnExactCongStartSpec.post enc Try.prog Try.f4 false true false false) := by
  refine returnsInHanded_of_change (C := Try.checked) own started (by kernel_rfl) Try.func4
    (ChangeSpec.witness6 (enc := enc) (C := Try.checked) false ⟨#[], #[.int .i64 0], []⟩ 8 (by kernel_rfl) (by kernel_rfl) (by kernel_rfl) (by kernel_rfl)) ?_
  intro W base args ds gs before hval0 hW hcnd _
  have hval : ∀ (j : Nat) t v, Try.f4.params[j]? = some t → args[j]? = some v → Value.okWide Try.prog W .any base t v := hval0
  have hW' := hW
  obtain ⟨p, q, hA0, hV, rfl, hfz, hnd⟩ := hW
  have hA : DataW.TrodAll enc Try.prog W 0 (fun _ => true) true Try.f4.params.toList args.toList ds p := hA0
  rw [Try.params4] at hA hval
  obtain ⟨v0, vs0, d0, ds0, p0, q0, hargs, rfl, rfl, h0, r0⟩ := trodAll_cons hA
  obtain ⟨rfl, rfl, rfl⟩ := trodAll_nil r0
  obtain rfl : args = #[v0] := by cases args; simp_all
  obtain ⟨rfl, rfl⟩ := trodVars_none hV
  have e0 := h0
  have lt0 : ∀ x ∈ p0, x.block < W.heap.size := by obtain ⟨m, hm⟩ := e0; exact DataW.trod_lt m _ _ _ hm
  obtain ⟨b0, rfl, _, _, x0⟩ := open_int Try.underlying3 (hval 0 3 v0 rfl rfl) h0
  clear hA0 hval0
  refine (walk b0 W x0).mono fun e W' ⟨he, bel⟩ => ?_
  subst he
  exact ⟨_, rfl, _, _, _, [], _, [], hW', trodAll_mk1 (shut_bool Try.underlying4 _), (trodAll_cons_mk (Below.trod laidOut (by kernel_rfl) (of_decide_eq_true (by kernel_rfl)) e0 bel lt0) trodAll_mk0), rfl, bel.frame _, fun h => by cases h⟩

theorem over : Rows.fnExactCongStartRow.holds Try.pinned (OpenSpec.ofChange Rows.fnExactCongStartSpec) :=
  OpenClaim.holds_of_wide 4 Try.f4 rfl rfl rfl rfl rfl rfl rfl ⟨rfl, rfl, rfl, rfl, rfl⟩ rfl rfl rfl rfl rfl (by kernel_rfl) Try.func4 (by kernel_rfl)
    (of_decide_eq_true (by kernel_rfl)) (by unfold Func.isWrapper; first | (rw [if_pos (by decide +kernel)]; kernel_rfl) | (rw [if_neg (by decide +kernel)]; exact ⟨rfl, rfl⟩))
    (fun os started H enc _ => lifted os started H enc)

theorem proved : Rows.FnExactCongStartSaid := over
end Go.Proofs.Ytakcalmmbknobaa.fnExactCongStart

namespace Go.Proofs.Ytakcalmmbknobaa
theorem fnExactCongStart_holds : Rows.FnExactCongStartSaid := fnExactCongStart.proved
#print axioms fnExactCongStart_holds
end Go.Proofs.Ytakcalmmbknobaa
