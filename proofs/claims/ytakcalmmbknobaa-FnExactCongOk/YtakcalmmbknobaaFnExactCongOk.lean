/-
  Proved: at every argument impl.CongOk answers as spec.CongOk (the law FnExactCongOk returns true, and its arguments read as before); no condition.
-/
import Derived.Test.YtakcalmmbknobaaRows
import Derived.Test.YtakcalmmbknobaaOpenCong
import Derived.Test.YtakcalmmbknobaaCongS
import Derived.WalkKit
import Derived.ProofKit
import Derived.OpenShut
import Derived.ShutString
import Derived.ChangeOld
import Derived.Below
import Derived.Carry
namespace Go.Proofs.Ytakcalmmbknobaa.fnExactCongOk
open Go.ChangeShapes Go.WideShapes Go.ChangeAt Go.RowKit
open Go.ChangeMaps (open_string shut_string)
set_option linter.unusedVariables false

theorem own : ownKnob Try.prog.godebug = none := by kernel_rfl
theorem laidOut : laidOutB Try.prog = true := by kernel_rfl

theorem walk (wn0 th0 du0 : Int) (fa0 : Bool) (re0 : Int) (w : World) (x00 : (Lit.int .i64 wn0).wf = true) (x01 : (Lit.int .i64 th0).wf = true) (x02 : (Lit.int .i64 du0).wf = true) (x03 : (Lit.int .u32 re0).wf = true) :
    Calls Try.prog 5 #[.agg #[.int .i64 wn0, .int .i64 th0, .int .i64 du0, .bool fa0, .int .u32 re0]] w fun e w' => e = .returned (.bool true) ∧ Below w.heap.size w w' := by
  have A := Blk.new w #[.int .i64 wn0, .int .i64 th0, .int .i64 du0, .bool fa0, .int .u32 re0] 36
  have G := (Since.refl w).alloc (.cells #[.int .i64 wn0, .int .i64 th0, .int .i64 du0, .bool fa0, .int .u32 re0] 36)
  have hto := fun wx => toCong wn0 th0 du0 fa0 re0 wx
  have hs := fun wx => specCongOk wn0 th0 du0 fa0 re0 wx
  have hi := fun wx => implCongOk wn0 th0 du0 fa0 re0 wx
  generalize congOk wn0 th0 du0 = B at hs hi
  unfold congVal at *
  go_enter Try.func5, Try.ntmps5
  go_wp2_with (fail)
  refine (hto _).mono ?_
  rintro _ w1 ⟨rfl, g1⟩
  replace G := G.trans g1
  replace A := A.since g1
  go_wp2_with (fail)
  refine (hs _).mono ?_
  rintro _ w2 ⟨rfl, hw2⟩
  have g2 : Since w1 w2 := by
    rw [hw2]
    exact (Since.refl _).alloc _
  clear hw2
  replace G := G.trans g2
  replace A := A.since g2
  have cA0 := A.cell 0
  have cA1 := A.cell 1
  have cA2 := A.cell 2
  have cA3 := A.cell 3
  have cA4 := A.cell 4
  simp at cA0 cA1 cA2 cA3 cA4
  go_wp2_with (fail)
  refine (hto _).mono ?_
  rintro _ w3 ⟨rfl, g3⟩
  replace G := G.trans g3
  go_wp2_with (fail)
  refine (hi _).mono ?_
  rintro _ w4 ⟨rfl, hw4⟩
  have g4 : Since w3 w4 := by
    rw [hw4]
    exact (Since.refl _).alloc _
  clear hw4
  replace G := G.trans g4
  go_wp2_with (fail)
  go_ret
  exact ⟨rfl, G⟩

set_option maxRecDepth 100000 in
theorem lifted (os : Os) (started : os.Started) (H : Type) (enc : TypeId × Value → H) :
    ReturnsInHanded {} Try.checked os 5 .any (Rows.fnExactCongOkSpec.pre6 enc Try.prog Try.f5 Rows.fnExactCongOkRow.domain false) (Rows.fnExactCongOkSpec.post enc Try.prog Try.f5 false true false false) := by
  refine returnsInHanded_of_change (C := Try.checked) own started (by kernel_rfl) Try.func5
    (ChangeSpec.witness6 (enc := enc) (C := Try.checked) false ⟨#[], #[.agg #[.int .i64 0, .int .i64 0, .int .i64 0, .bool false, .int .u32 0]], []⟩ 8 (by kernel_rfl) (by kernel_rfl) (by kernel_rfl) (by kernel_rfl)) ?_
  intro W base args ds gs before hval0 hW hcnd _
  have hval : ∀ (j : Nat) t v, Try.f5.params[j]? = some t → args[j]? = some v → Value.okWide Try.prog W .any base t v := hval0
  have hW' := hW
  obtain ⟨p, q, hA0, hV, rfl, hfz, hnd⟩ := hW
  have hA : DataW.TrodAll enc Try.prog W 0 (fun _ => true) true Try.f5.params.toList args.toList ds p := hA0
  rw [Try.params5] at hA hval
  obtain ⟨v0, vs0, d0, ds0, p0, q0, hargs, rfl, rfl, h0, r0⟩ := trodAll_cons hA
  obtain ⟨rfl, rfl, rfl⟩ := trodAll_nil r0
  obtain rfl : args = #[v0] := by cases args; simp_all
  obtain ⟨rfl, rfl⟩ := trodVars_none hV
  have e0 := h0
  have lt0 : ∀ x ∈ p0, x.block < W.heap.size := by obtain ⟨m, hm⟩ := e0; exact DataW.trod_lt m _ _ _ hm
  obtain ⟨wn0, th0, du0, fa0, re0, rfl, x00, x01, x02, x03⟩ := open_cong (hval 0 36 v0 rfl rfl) h0
  clear hA0 hval0
  refine (walk wn0 th0 du0 fa0 re0 W x00 x01 x02 x03).mono fun e W' ⟨he, bel⟩ => ?_
  subst he
  exact ⟨_, rfl, _, _, _, [], _, [], hW', trodAll_mk1 (shut_bool Try.underlying4 _), (trodAll_cons_mk (Below.trod laidOut (by kernel_rfl) (of_decide_eq_true (by kernel_rfl)) e0 bel lt0) trodAll_mk0), rfl, bel.frame _, fun h => by cases h⟩

theorem over : Rows.fnExactCongOkRow.holds Try.pinned (OpenSpec.ofChange Rows.fnExactCongOkSpec) :=
  OpenClaim.holds_of_wide 5 Try.f5 rfl rfl rfl rfl rfl rfl rfl ⟨rfl, rfl, rfl, rfl, rfl⟩ rfl rfl rfl rfl rfl (by kernel_rfl) Try.func5 (by kernel_rfl)
    (of_decide_eq_true (by kernel_rfl)) (by unfold Func.isWrapper; first | (rw [if_pos (by decide +kernel)]; kernel_rfl) | (rw [if_neg (by decide +kernel)]; exact ⟨rfl, rfl⟩))
    (fun os started H enc _ => lifted os started H enc)

theorem proved : Rows.FnExactCongOkSaid := over
end Go.Proofs.Ytakcalmmbknobaa.fnExactCongOk

namespace Go.Proofs.Ytakcalmmbknobaa
theorem fnExactCongOk_holds : Rows.FnExactCongOkSaid := fnExactCongOk.proved
#print axioms fnExactCongOk_holds
end Go.Proofs.Ytakcalmmbknobaa
