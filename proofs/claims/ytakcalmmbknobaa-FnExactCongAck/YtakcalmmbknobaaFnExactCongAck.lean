/-
  Proved: at every argument impl.CongAck answers as spec.CongAck (the law FnExactCongAck returns true, and its arguments read as before); no condition.
-/
import Derived.Test.YtakcalmmbknobaaRows
import Derived.Test.YtakcalmmbknobaaOpenCong
import Derived.Test.YtakcalmmbknobaaCongS
import Derived.WalkKit
import Derived.ProofKit
import Derived.OpenShut
import Derived.ShutString
import Derived.ChangeOld
import Derived.Below
import Derived.Carry
namespace Go.Proofs.Ytakcalmmbknobaa.fnExactCongAck
open Go.ChangeShapes Go.WideShapes Go.ChangeAt Go.RowKit
open Go.ChangeMaps (open_string shut_string)
set_option linter.unusedVariables false

theorem own : ownKnob Try.prog.godebug = none := by kernel_rfl
theorem laidOut : laidOutB Try.prog = true := by kernel_rfl

theorem walk (wn0 th0 du0 : Int) (fa0 : Bool) (re0 : Int) (b1 : Int) (b2 : Int) (w : World) (x00 : (Lit.int .i64 wn0).wf = true) (x01 : (Lit.int .i64 th0).wf = true) (x02 : (Lit.int .i64 du0).wf = true) (x03 : (Lit.int .u32 re0).wf = true) (x1 : (Lit.int .i64 b1).wf = true) (x2 : (Lit.int .u32 b2).wf = true) :
    Calls Try.prog 6 #[.agg #[.int .i64 wn0, .int .i64 th0, .int .i64 du0, .bool fa0, .int .u32 re0], .int .i64 b1, .int .u32 b2] w fun e w' => e = .returned (.bool true) ∧ Below w.heap.size w w' := by
  have A := Blk.new w #[.int .i64 wn0, .int .i64 th0, .int .i64 du0, .bool fa0, .int .u32 re0] 36
  have G := (Since.refl w).alloc (.cells #[.int .i64 wn0, .int .i64 th0, .int .i64 du0, .bool fa0, .int .u32 re0] 36)
  have hto := fun wx => toCong wn0 th0 du0 fa0 re0 wx
  have hr := isWord_wf x03
  have hb := isWord_wf x2
  obtain ⟨s0, hd⟩ := isDist_ex re0 b2
  have hs := fun wx => specAck wn0 th0 du0 fa0 re0 b1 b2 s0 hr hb hd wx
  have hi := fun wx => implAck wn0 th0 du0 fa0 re0 b1 b2 s0 hr hb hd wx
  clear hd
  unfold ackVal at hs hi
  generalize ackX _ _ _ _ _ _ = X at hs hi
  generalize ackD _ _ _ _ = D at hs hi
  generalize ackF _ _ _ = F at hs hi
  generalize ackB _ _ _ = B at hs hi
  have he := fun wx => eqCong X th0 D F re0 wx
  unfold congVal at *
  go_enter Try.func6, Try.ntmps6
  go_wp2_with (fail)
  refine (hto _).mono ?_
  rintro _ w1 ⟨rfl, g1⟩
  replace G := G.trans g1
  replace A := A.since g1
  go_wp2_with (fail)
  refine (hs _).mono ?_
  rintro _ w2 ⟨rfl, g2⟩
  replace G := G.trans g2
  replace A := A.since g2
  have X0 := Blk.new w2 #[.int .i64 X, .int .i64 th0, .int .i64 D, .bool F, .int .u32 re0] 26
  have g2' := (Since.refl w2).alloc (.cells #[.int .i64 X, .int .i64 th0, .int .i64 D, .bool F, .int .u32 re0] 26)
  replace G := G.trans g2'
  replace A := A.since g2'
  have cA0 := A.cell 0
  have cA1 := A.cell 1
  have cA2 := A.cell 2
  have cA3 := A.cell 3
  have cA4 := A.cell 4
  simp at cA0 cA1 cA2 cA3 cA4
  go_wp2_with (fail)
  refine (hto _).mono ?_
  rintro _ w3 ⟨rfl, g3⟩
  replace G := G.trans g3
  replace X0 := X0.since g3
  go_wp2_with (fail)
  refine (hi _).mono ?_
  rintro _ w4 ⟨rfl, g4⟩
  replace G := G.trans g4
  replace X0 := X0.since g4
  have g4' := (Since.refl w4).alloc (.cells #[.int .i64 X, .int .i64 th0, .int .i64 D, .bool F, .int .u32 re0] 26)
  replace G := G.trans g4'
  replace X0 := X0.since g4'
  have cX0 := X0.cell 0
  have cX1 := X0.cell 1
  have cX2 := X0.cell 2
  have cX3 := X0.cell 3
  have cX4 := X0.cell 4
  simp at cX0 cX1 cX2 cX3 cX4
  go_wp2_with (fail)
  refine (he _).mono ?_
  rintro _ w5 ⟨rfl, g5⟩
  replace G := G.trans g5
  go_wp2_with (fail)
  go_ret
  exact ⟨rfl, G⟩

set_option maxRecDepth 100000 in
theorem lifted (os : Os) (started : os.Started) (H : Type) (enc : TypeId × Value → H) :
    ReturnsInHanded {} Try.checked os 6 .any (Rows.fnExactCongAckSpec.pre6 enc Try.prog Try.f6 Rows.fnExactCongAckRow.domain false) (Rows.fnExactCongAckSpec.post enc Try.prog Try.f6 false true false false) := by
  refine returnsInHanded_of_change (C := Try.checked) own started (by kernel_rfl) Try.func6
    (ChangeSpec.witness6 (enc := enc) (C := Try.checked) false ⟨#[], #[.agg #[.int .i64 0, .int .i64 0, .int .i64 0, .bool false, .int .u32 0], .int .i64 0, .int .u32 0], []⟩ 8 (by kernel_rfl) (by kernel_rfl) (by kernel_rfl) (by kernel_rfl)) ?_
  intro W base args ds gs before hval0 hW hcnd _
  have hval : ∀ (j : Nat) t v, Try.f6.params[j]? = some t → args[j]? = some v → Value.okWide Try.prog W .any base t v := hval0
  have hW' := hW
  obtain ⟨p, q, hA0, hV, rfl, hfz, hnd⟩ := hW
  have hA : DataW.TrodAll enc Try.prog W 0 (fun _ => true) true Try.f6.params.toList args.toList ds p := hA0
  rw [Try.params6] at hA hval
  obtain ⟨v0, vs0, d0, ds0, p0, q0, hargs, rfl, rfl, h0, r0⟩ := trodAll_cons hA
  obtain ⟨v1, vs1, d1, ds1, p1, q1, rfl, rfl, rfl, h1, r1⟩ := trodAll_cons r0
  obtain ⟨v2, vs2, d2, ds2, p2, q2, rfl, rfl, rfl, h2, r2⟩ := trodAll_cons r1
  obtain ⟨rfl, rfl, rfl⟩ := trodAll_nil r2
  obtain rfl : args = #[v0, v1, v2] := by cases args; simp_all
  obtain ⟨rfl, rfl⟩ := trodVars_none hV
  have e0 := h0
  have lt0 : ∀ x ∈ p0, x.block < W.heap.size := by obtain ⟨m, hm⟩ := e0; exact DataW.trod_lt m _ _ _ hm
  have e1 := h1
  have lt1 : ∀ x ∈ p1, x.block < W.heap.size := by obtain ⟨m, hm⟩ := e1; exact DataW.trod_lt m _ _ _ hm
  have e2 := h2
  have lt2 : ∀ x ∈ p2, x.block < W.heap.size := by obtain ⟨m, hm⟩ := e2; exact DataW.trod_lt m _ _ _ hm
  obtain ⟨wn0, th0, du0, fa0, re0, rfl, x00, x01, x02, x03⟩ := open_cong (hval 0 36 v0 rfl rfl) h0
  obtain ⟨b1, rfl, _, _, x1⟩ := open_int Try.underlying3 (hval 1 3 v1 rfl rfl) h1
  obtain ⟨b2, rfl, _, _, x2⟩ := open_int Try.underlying24 (hval 2 24 v2 rfl rfl) h2
  clear hA0 hval0
  refine (walk wn0 th0 du0 fa0 re0 b1 b2 W x00 x01 x02 x03 x1 x2).mono fun e W' ⟨he, bel⟩ => ?_
  subst he
  exact ⟨_, rfl, _, _, _, [], _, [], hW', trodAll_mk1 (shut_bool Try.underlying4 _), (trodAll_cons_mk (Below.trod laidOut (by kernel_rfl) (of_decide_eq_true (by kernel_rfl)) e0 bel lt0) (trodAll_cons_mk (Below.trod laidOut (by kernel_rfl) (of_decide_eq_true (by kernel_rfl)) e1 bel lt1) (trodAll_cons_mk (Below.trod laidOut (by kernel_rfl) (of_decide_eq_true (by kernel_rfl)) e2 bel lt2) trodAll_mk0))), rfl, bel.frame _, fun h => by cases h⟩

theorem over : Rows.fnExactCongAckRow.holds Try.pinned (OpenSpec.ofChange Rows.fnExactCongAckSpec) :=
  OpenClaim.holds_of_wide 6 Try.f6 rfl rfl rfl rfl rfl rfl rfl ⟨rfl, rfl, rfl, rfl, rfl⟩ rfl rfl rfl rfl rfl (by kernel_rfl) Try.func6 (by kernel_rfl)
    (of_decide_eq_true (by kernel_rfl)) (by unfold Func.isWrapper; first | (rw [if_pos (by decide +kernel)]; kernel_rfl) | (rw [if_neg (by decide +kernel)]; exact ⟨rfl, rfl⟩))
    (fun os started H enc _ => lifted os started H enc)

theorem proved : Rows.FnExactCongAckSaid := over
end Go.Proofs.Ytakcalmmbknobaa.fnExactCongAck

namespace Go.Proofs.Ytakcalmmbknobaa
theorem fnExactCongAck_holds : Rows.FnExactCongAckSaid := fnExactCongAck.proved
#print axioms fnExactCongAck_holds
end Go.Proofs.Ytakcalmmbknobaa
