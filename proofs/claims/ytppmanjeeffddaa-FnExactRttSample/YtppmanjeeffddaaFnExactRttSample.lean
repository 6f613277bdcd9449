/-
  Proved: at every wait and number impl.RttSample answers as spec.RttSample (the law FnExactRttSample returns true, and its arguments read as before); no condition.
-/
import Derived.Test.YtppmanjeeffddaaRows
import Derived.Test.YtppmanjeeffddaaOpenRtt
import Derived.Test.YtppmanjeeffddaaRttSW
import Derived.WalkKit
import Derived.ProofKit
import Derived.OpenShut
import Derived.ShutString
import Derived.ChangeOld
import Derived.Below
import Derived.Carry
namespace Go.Proofs.Ytppmanjeeffddaa.fnExactRttSample
open Go.ChangeShapes Go.WideShapes Go.ChangeAt Go.RowKit
open Go.ChangeMaps (open_string shut_string)
set_option linter.unusedVariables false

theorem own : ownKnob Try.prog.godebug = none := by kernel_rfl
theorem laidOut : laidOutB Try.prog = true := by kernel_rfl

theorem walk (a0 : Bool) (s0 z0 k0 : Int) (b1 : Int) (w : World) (x01 : (Lit.int .i64 s0).wf = true) (x02 : (Lit.int .i64 z0).wf = true) (x03 : (Lit.int .i64 k0).wf = true) (x1 : (Lit.int .i64 b1).wf = true) :
    Calls Try.prog 5 #[.agg #[.bool a0, .int .i64 s0, .int .i64 z0, .int .i64 k0], .int .i64 b1] w fun e w' => e = .returned (.bool true) ∧ Below w.heap.size w w' := by
  have A := Blk.new w #[.bool a0, .int .i64 s0, .int .i64 z0, .int .i64 k0] 34
  have G := (Since.refl w).alloc (.cells #[.bool a0, .int .i64 s0, .int .i64 z0, .int .i64 k0] 34)
  have hto := fun wx => toRtt a0 s0 z0 k0 wx
  have hs := fun wx => specSample a0 s0 z0 k0 b1 wx
  have hi := fun wx => implSample a0 s0 z0 k0 b1 wx
  obtain ⟨xa, xs, xv, xd, hans⟩ : ∃ xa xs xv xd, (if rttOk a0 s0 z0 k0 && decide (0 ≤ b1 ∧ b1 ≤ 100000) then rttVal true (sampleS a0 s0 b1) (sampleV a0 s0 z0 b1) 0 else rttVal false 0 0 0) = rttVal xa xs xv xd := by
    split
    · exact ⟨_, _, _, _, rfl⟩
    · exact ⟨_, _, _, _, rfl⟩
  rw [hans] at hs hi
  clear hans
  have he := fun wx => eqRtt xa xs xv xd wx
  unfold rttVal at hto hs hi he
  go_enter Try.func5, Try.ntmps5
  go_wp2_with (fail)
  refine (hto _).mono ?_
  rintro _ w1 ⟨rfl, g1⟩
  replace G := G.trans g1
  replace A := A.since g1
  go_wp2_with (fail)
  refine (hs _).mono ?_
  rintro _ w2 ⟨rfl, g2⟩
  replace G := G.trans g2
  replace A := A.since g2
  have X := Blk.new w2 #[.bool xa, .int .i64 xs, .int .i64 xv, .int .i64 xd] 28
  have g2' := (Since.refl w2).alloc (.cells #[.bool xa, .int .i64 xs, .int .i64 xv, .int .i64 xd] 28)
  replace G := G.trans g2'
  replace A := A.since g2'
  have cA0 := A.cell 0
  have cA1 := A.cell 1
  have cA2 := A.cell 2
  have cA3 := A.cell 3
  simp at cA0 cA1 cA2 cA3
  go_wp2_with (fail)
  refine (hto _).mono ?_
  rintro _ w3 ⟨rfl, g3⟩
  replace G := G.trans g3
  replace X := X.since g3
  go_wp2_with (fail)
  refine (hi _).mono ?_
  rintro _ w4 ⟨rfl, g4⟩
  replace G := G.trans g4
  replace X := X.since g4
  have g4' := (Since.refl w4).alloc (.cells #[.bool xa, .int .i64 xs, .int .i64 xv, .int .i64 xd] 28)
  replace G := G.trans g4'
  replace X := X.since g4'
  have cX0 := X.cell 0
  have cX1 := X.cell 1
  have cX2 := X.cell 2
  have cX3 := X.cell 3
  simp at cX0 cX1 cX2 cX3
  go_wp2_with (fail)
  refine (he _).mono ?_
  rintro _ w5 ⟨rfl, g5⟩
  replace G := G.trans g5
  go_wp2_with (fail)
  go_ret
  exact ⟨rfl, G⟩

set_option maxRecDepth 100000 in
theorem lifted (os : Os) (started : os.Started) (H : Type) (enc : TypeId × Value → H) :
    ReturnsInHanded {} Try.checked os 5 .any (Rows.fnExactRttSampleSpec.pre6 enc Try.prog Try.f5 Rows.fnExactRttSampleRow.domain false) (Rows.fnExactRttSampleSpec.post enc Try.prog Try.f5 false true false false) := by
  refine returnsInHanded_of_change (C := Try.checked) own started (by kernel_rfl) Try.func5
    (ChangeSpec.witness6 (enc := enc) (C := Try.checked) false ⟨#[], #[.agg #[.bool false, .int .i64 0, .int .i64 0, .int .i64 0], .int .i64 0], []⟩ 8 (by kernel_rfl) (by kernel_rfl) (by kernel_rfl) (by kernel_rfl)) ?_
  intro W base args ds gs before hval0 hW hcnd _
  have hval : ∀ (j : Nat) t v, Try.f5.params[j]? = some t → args[j]? = some v → Value.okWide Try.prog W .any base t v := hval0
  have hW' := hW
  obtain ⟨p, q, hA0, hV, rfl, hfz, hnd⟩ := hW
  have hA : DataW.TrodAll enc Try.prog W 0 (fun _ => true) true Try.f5.params.toList args.toList ds p := hA0
  rw [Try.params5] at hA hval
  obtain ⟨v0, vs0, d0, ds0, p0, q0, hargs, rfl, rfl, h0, r0⟩ := trodAll_cons hA
  obtain ⟨v1, vs1, d1, ds1, p1, q1, rfl, rfl, rfl, h1, r1⟩ := trodAll_cons r0
  obtain ⟨rfl, rfl, rfl⟩ := trodAll_nil r1
  obtain rfl : args = #[v0, v1] := by cases args; simp_all
  obtain ⟨rfl, rfl⟩ := trodVars_none hV
  have e0 := h0
  have lt0 : ∀ x ∈ p0, x.block < W.heap.size := by obtain ⟨m, hm⟩ := e0; exact DataW.trod_lt m _ _ _ hm
  have e1 := h1
  have lt1 : ∀ x ∈ p1, x.block < W.heap.size := by obtain ⟨m, hm⟩ := e1; exact DataW.trod_lt m _ _ _ hm
  obtain ⟨a0, s0, z0, k0, rfl, x01, x02, x03⟩ := open_rtt (hval 0 34 v0 rfl rfl) h0
  obtain ⟨b1, rfl, _, _, x1⟩ := open_int Try.underlying3 (hval 1 3 v1 rfl rfl) h1
  clear hA0 hval0
  refine (walk a0 s0 z0 k0 b1 W x01 x02 x03 x1).mono fun e W' ⟨he, bel⟩ => ?_
  subst he
  exact ⟨_, rfl, _, _, _, [], _, [], hW', trodAll_mk1 (shut_bool Try.underlying4 _), (trodAll_cons_mk (Below.trod laidOut (by kernel_rfl) (of_decide_eq_true (by kernel_rfl)) e0 bel lt0) (trodAll_cons_mk (Below.trod laidOut (by kernel_rfl) (of_decide_eq_true (by kernel_rfl)) e1 bel lt1) trodAll_mk0)), rfl, bel.frame _, fun h => by cases h⟩

theorem over : Rows.fnExactRttSampleRow.holds Try.pinned (OpenSpec.ofChange Rows.fnExactRttSampleSpec) :=
  OpenClaim.holds_of_wide 5 Try.f5 rfl rfl rfl rfl rfl rfl rfl ⟨rfl, rfl, rfl, rfl, rfl⟩ rfl rfl rfl rfl rfl (by kernel_rfl) Try.func5 (by kernel_rfl)
    (of_decide_eq_true (by kernel_rfl)) (by unfold Func.isWrapper; first | (rw [if_pos (by decide +kernel)]; kernel_rfl) | (rw [if_neg (by decide +kernel)]; exact ⟨rfl, rfl⟩))
    (fun os started H enc _ => lifted os started H enc)

theorem proved : Rows.FnExactRttSampleSaid := over
end Go.Proofs.Ytppmanjeeffddaa.fnExactRttSample

namespace Go.Proofs.Ytppmanjeeffddaa
theorem fnExactRttSample_holds : Rows.FnExactRttSampleSaid := fnExactRttSample.proved
#print axioms fnExactRttSample_holds
end Go.Proofs.Ytppmanjeeffddaa
