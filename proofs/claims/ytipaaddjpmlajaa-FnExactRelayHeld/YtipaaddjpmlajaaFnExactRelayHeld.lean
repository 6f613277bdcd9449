/-
  Proved: at every two pipes impl.RelayHeld answers as spec.RelayHeld (the law FnExactRelayHeld returns true, and its argument reads as before); no condition (of pipes whose Data have more than 1048576 bytes together the law asks nothing).
-/
import Derived.Test.YtipaaddjpmlajaaRows
import Derived.Test.YtipaaddjpmlajaaRelay
import Derived.WalkKit
import Derived.ProofKit
import Derived.OpenShut
import Derived.ShutString
import Derived.ChangeOld
import Derived.Below
import Derived.Carry
namespace Go.Proofs.Ytipaaddjpmlajaa.fnExactRelayHeld
open Go.ChangeShapes Go.WideShapes Go.ChangeAt Go.RowKit
open Go.ChangeMaps (open_string shut_string)
set_option linter.unusedVariables false

theorem own : ownKnob Try.prog.godebug = none := by kernel_rfl
theorem laidOut : laidOutB Try.prog = true := by kernel_rfl

theorem walk (rm0 : Int) (d0 : ByteArray) (e0 : Bool) (n0 : Int) (rn0 : Int) (f0 : ByteArray) (g0 : Bool) (m0 : Int) (w : World) (x0 : (Lit.int .i64 rm0).wf = true ∧ (Lit.int .i64 rn0).wf = true) (z0 : d0.size ≤ maxLen ∧ f0.size ≤ maxLen) (y0 : (Lit.int .i64 n0).wf = true ∧ (Lit.int .i64 m0).wf = true) :
    Calls Try.prog 5 #[.agg #[.int .i64 rm0, .string d0, .bool e0, .int .i64 n0, .int .i64 rn0, .string f0, .bool g0, .int .i64 m0]] w fun e w' => e = .returned (.bool true) ∧ Below w.heap.size w w' := by
  have hz := fun wx => szRelay rm0 d0 e0 n0 rn0 f0 g0 m0 1048576 (by omega) (by have := z0.1; unfold maxLen at this; omega) (by have := z0.2; unfold maxLen at this; omega) wx
  by_cases q1 : (d0.size : Int) ≤ 1048576
  case neg =>
    rw [if_neg q1] at hz
    unfold rlVal at hz
    have G := Since.refl w
    go_enter Try.func5, Try.ntmps5
    go_upto_region 0 with (fail)
    refine wp_region_lit ?_
    refine step_val (w' := w.alloc (.cells (#[.int .i64 rm0, .string d0, .bool e0, .int .i64 n0, .int .i64 rn0, .string f0, .bool g0, .int .i64 m0]) 36)) rfl (.pointer (some ⟨w.heap.size, 0, none⟩)) (by kernel_rfl) ?_
    have qB2 := Blk.new w (#[.int .i64 rm0, .string d0, .bool e0, .int .i64 n0, .int .i64 rn0, .string f0, .bool g0, .int .i64 m0]) 36
    have qg3 := (Since.refl w).alloc (.cells (#[.int .i64 rm0, .string d0, .bool e0, .int .i64 n0, .int .i64 rn0, .string f0, .bool g0, .int .i64 m0]) 36)
    replace G := G.trans qg3
    generalize w.alloc (.cells (#[.int .i64 rm0, .string d0, .bool e0, .int .i64 n0, .int .i64 rn0, .string f0, .bool g0, .int .i64 m0]) 36) = qw1 at  G qB2 qg3 ⊢
    have qB2_l := qB2.lt
    have qg3_s := qg3.size
    refine step_val (w' := qw1) rfl (.bool false) (by kernel_rfl) ?_
    refine wpList_frame (a' := { tmps := #[.agg #[.int .i64 rm0, .string d0, .bool e0, .int .i64 n0, .int .i64 rn0, .string f0, .bool g0, .int .i64 m0], .pointer (some ⟨w.heap.size, 0, none⟩), .bool false, undef, undef, undef, undef, undef, undef, undef, undef, undef, undef, undef, undef, undef, undef, undef, undef, undef], defers := [] }) (by kernel_rfl) ?_
    go_upto_region 2 with (fail)
    refine wp_region_lit ?_
    refine load_big lrl_big rfl qB2 rfl _ rfl rfl ?_
    refine move_step rfl _ rfl ?_
    refine call_step rfl 13 #[.agg #[.int .i64 rm0, .string d0, .bool e0, .int .i64 n0, .int .i64 rn0, .string f0, .bool g0, .int .i64 m0], .int .i64 1048576] (by kernel_rfl) (hz _) ?_
    rintro _ qw4 ⟨rfl, qg5⟩
    refine ⟨_, rfl, ?_⟩
    replace qB2 := qB2.since qg5
    replace G := G.trans qg5
    have qg5_s := qg5.size
    refine step_val (w' := qw4) rfl (.int .i64 (-1)) (by kernel_rfl) ?_
    refine wpList_frame (a' := { tmps := #[.agg #[.int .i64 rm0, .string d0, .bool e0, .int .i64 n0, .int .i64 rn0, .string f0, .bool g0, .int .i64 m0], .pointer (some ⟨w.heap.size, 0, none⟩), .bool false, .int .i64 (-1), undef, undef, .agg #[.int .i64 rm0, .string d0, .bool e0, .int .i64 n0, .int .i64 rn0, .string f0, .bool g0, .int .i64 m0], .int .i64 1048576, .int .i64 (-1), undef, undef, undef, undef, undef, undef, undef, undef, undef, undef, undef], defers := [] }) (by kernel_rfl) ?_
    go_wp2_with (fail)
    go_ret
    exact ⟨rfl, G⟩
  case pos =>
    rw [if_pos q1] at hz
    by_cases q2 : (f0.size : Int) ≤ 1048576 - d0.size
    case neg =>
      rw [if_neg q2] at hz
      unfold rlVal at hz
      have G := Since.refl w
      go_enter Try.func5, Try.ntmps5
      go_upto_region 0 with (fail)
      refine wp_region_lit ?_
      refine step_val (w' := w.alloc (.cells (#[.int .i64 rm0, .string d0, .bool e0, .int .i64 n0, .int .i64 rn0, .string f0, .bool g0, .int .i64 m0]) 36)) rfl (.pointer (some ⟨w.heap.size, 0, none⟩)) (by kernel_rfl) ?_
      have qB2 := Blk.new w (#[.int .i64 rm0, .string d0, .bool e0, .int .i64 n0, .int .i64 rn0, .string f0, .bool g0, .int .i64 m0]) 36
      have qg3 := (Since.refl w).alloc (.cells (#[.int .i64 rm0, .string d0, .bool e0, .int .i64 n0, .int .i64 rn0, .string f0, .bool g0, .int .i64 m0]) 36)
      replace G := G.trans qg3
      generalize w.alloc (.cells (#[.int .i64 rm0, .string d0, .bool e0, .int .i64 n0, .int .i64 rn0, .string f0, .bool g0, .int .i64 m0]) 36) = qw1 at  G qB2 qg3 ⊢
      have qB2_l := qB2.lt
      have qg3_s := qg3.size
      refine step_val (w' := qw1) rfl (.bool false) (by kernel_rfl) ?_
      refine wpList_frame (a' := { tmps := #[.agg #[.int .i64 rm0, .string d0, .bool e0, .int .i64 n0, .int .i64 rn0, .string f0, .bool g0, .int .i64 m0], .pointer (some ⟨w.heap.size, 0, none⟩), .bool false, undef, undef, undef, undef, undef, undef, undef, undef, undef, undef, undef, undef, undef, undef, undef, undef, undef], defers := [] }) (by kernel_rfl) ?_
      go_upto_region 2 with (fail)
      refine wp_region_lit ?_
      refine load_big lrl_big rfl qB2 rfl _ rfl rfl ?_
      refine move_step rfl _ rfl ?_
      refine call_step rfl 13 #[.agg #[.int .i64 rm0, .string d0, .bool e0, .int .i64 n0, .int .i64 rn0, .string f0, .bool g0, .int .i64 m0], .int .i64 1048576] (by kernel_rfl) (hz _) ?_
      rintro _ qw4 ⟨rfl, qg5⟩
      refine ⟨_, rfl, ?_⟩
      replace qB2 := qB2.since qg5
      replace G := G.trans qg5
      have qg5_s := qg5.size
      refine step_val (w' := qw4) rfl (.int .i64 (-1)) (by kernel_rfl) ?_
      refine wpList_frame (a' := { tmps := #[.agg #[.int .i64 rm0, .string d0, .bool e0, .int .i64 n0, .int .i64 rn0, .string f0, .bool g0, .int .i64 m0], .pointer (some ⟨w.heap.size, 0, none⟩), .bool false, .int .i64 (-1), undef, undef, .agg #[.int .i64 rm0, .string d0, .bool e0, .int .i64 n0, .int .i64 rn0, .string f0, .bool g0, .int .i64 m0], .int .i64 1048576, .int .i64 (-1), undef, undef, undef, undef, undef, undef, undef, undef, undef, undef, undef], defers := [] }) (by kernel_rfl) ?_
      go_wp2_with (fail)
      go_ret
      exact ⟨rfl, G⟩
    case pos =>
      rw [if_pos q2] at hz
      have ht := fun wx => toRelay rm0 d0 e0 n0 rn0 f0 g0 m0 wx
      have hs := fun wx => specHeldR rm0 d0 e0 n0 rn0 f0 g0 m0 (by omega) (by omega) wx
      have hi := fun wx => implHeldR rm0 d0 e0 n0 rn0 f0 g0 m0 wx
      generalize heldP rm0 d0 n0 + heldP rn0 f0 m0 = v at hs hi
      unfold rlVal at hz ht hs hi
      have G := Since.refl w
      go_enter Try.func5, Try.ntmps5
      go_upto_region 0 with (fail)
      refine wp_region_lit ?_
      refine step_val (w' := w.alloc (.cells (#[.int .i64 rm0, .string d0, .bool e0, .int .i64 n0, .int .i64 rn0, .string f0, .bool g0, .int .i64 m0]) 36)) rfl (.pointer (some ⟨w.heap.size, 0, none⟩)) (by kernel_rfl) ?_
      have qB2 := Blk.new w (#[.int .i64 rm0, .string d0, .bool e0, .int .i64 n0, .int .i64 rn0, .string f0, .bool g0, .int .i64 m0]) 36
      have qg3 := (Since.refl w).alloc (.cells (#[.int .i64 rm0, .string d0, .bool e0, .int .i64 n0, .int .i64 rn0, .string f0, .bool g0, .int .i64 m0]) 36)
      replace G := G.trans qg3
      generalize w.alloc (.cells (#[.int .i64 rm0, .string d0, .bool e0, .int .i64 n0, .int .i64 rn0, .string f0, .bool g0, .int .i64 m0]) 36) = qw1 at  G qB2 qg3 ⊢
      have qB2_l := qB2.lt
      have qg3_s := qg3.size
      refine step_val (w' := qw1) rfl (.bool false) (by kernel_rfl) ?_
      refine wpList_frame (a' := { tmps := #[.agg #[.int .i64 rm0, .string d0, .bool e0, .int .i64 n0, .int .i64 rn0, .string f0, .bool g0, .int .i64 m0], .pointer (some ⟨w.heap.size, 0, none⟩), .bool false, undef, undef, undef, undef, undef, undef, undef, undef, undef, undef, undef, undef, undef, undef, undef, undef, undef], defers := [] }) (by kernel_rfl) ?_
      go_upto_region 2 with (fail)
      refine wp_region_lit ?_
      refine load_big lrl_big rfl qB2 rfl _ rfl rfl ?_
      refine move_step rfl _ rfl ?_
      refine call_step rfl 13 #[.agg #[.int .i64 rm0, .string d0, .bool e0, .int .i64 n0, .int .i64 rn0, .string f0, .bool g0, .int .i64 m0], .int .i64 1048576] (by kernel_rfl) (hz _) ?_
      rintro _ qw4 ⟨rfl, qg5⟩
      refine ⟨_, rfl, ?_⟩
      replace qB2 := qB2.since qg5
      replace G := G.trans qg5
      have qg5_s := qg5.size
      refine step_val (w' := qw4) rfl (.int .i64 (1048576 - d0.size - f0.size)) (by kernel_rfl) ?_
      refine wpList_frame (a' := { tmps := #[.agg #[.int .i64 rm0, .string d0, .bool e0, .int .i64 n0, .int .i64 rn0, .string f0, .bool g0, .int .i64 m0], .pointer (some ⟨w.heap.size, 0, none⟩), .bool false, .int .i64 (1048576 - d0.size - f0.size), undef, undef, .agg #[.int .i64 rm0, .string d0, .bool e0, .int .i64 n0, .int .i64 rn0, .string f0, .bool g0, .int .i64 m0], .int .i64 1048576, .int .i64 (1048576 - d0.size - f0.size), undef, undef, undef, undef, undef, undef, undef, undef, undef, undef, undef], defers := [] }) (by kernel_rfl) ?_
      go_upto_region 5 with (fail)
      refine wp_region_lit ?_
      refine load_big lrl_big rfl qB2 rfl _ rfl rfl ?_
      refine call_step rfl 15 #[.agg #[.int .i64 rm0, .string d0, .bool e0, .int .i64 n0, .int .i64 rn0, .string f0, .bool g0, .int .i64 m0]] (by kernel_rfl) (ht _) ?_
      rintro _ qw6 ⟨rfl, qg7⟩
      refine ⟨_, rfl, ?_⟩
      replace qB2 := qB2.since qg7
      replace G := G.trans qg7
      have qg7_s := qg7.size
      refine call_step rfl 14 #[.agg #[.int .i64 rm0, .string d0, .bool e0, .int .i64 n0, .int .i64 rn0, .string f0, .bool g0, .int .i64 m0]] (by kernel_rfl) (hs _) ?_
      rintro _ qw8 ⟨rfl, qg9⟩
      refine ⟨_, rfl, ?_⟩
      replace qB2 := qB2.since qg9
      replace G := G.trans qg9
      have qg9_s := qg9.size
      refine step_val (w' := qw8) rfl (.int .i64 v) (by kernel_rfl) ?_
      refine wpList_frame (a' := { tmps := #[.agg #[.int .i64 rm0, .string d0, .bool e0, .int .i64 n0, .int .i64 rn0, .string f0, .bool g0, .int .i64 m0], .pointer (some ⟨w.heap.size, 0, none⟩), .bool false, .int .i64 (1048576 - d0.size - f0.size), .int .i64 v, undef, .agg #[.int .i64 rm0, .string d0, .bool e0, .int .i64 n0, .int .i64 rn0, .string f0, .bool g0, .int .i64 m0], .int .i64 1048576, .int .i64 (1048576 - d0.size - f0.size), .int .i64 (1048576 - d0.size - f0.size), .bool (decide ((1048576 : Int) - d0.size - f0.size < 0)), .agg #[.int .i64 rm0, .string d0, .bool e0, .int .i64 n0, .int .i64 rn0, .string f0, .bool g0, .int .i64 m0], .agg #[.int .i64 rm0, .string d0, .bool e0, .int .i64 n0, .int .i64 rn0, .string f0, .bool g0, .int .i64 m0], .int .i64 v, undef, undef, undef, undef, undef, undef], defers := [] }) (by kernel_rfl) ?_
      go_upto_region 6 with (fail)
      refine wp_region_lit ?_
      refine load_big lrl_big rfl qB2 rfl _ rfl rfl ?_
      refine call_step rfl 15 #[.agg #[.int .i64 rm0, .string d0, .bool e0, .int .i64 n0, .int .i64 rn0, .string f0, .bool g0, .int .i64 m0]] (by kernel_rfl) (ht _) ?_
      rintro _ qw10 ⟨rfl, qg11⟩
      refine ⟨_, rfl, ?_⟩
      replace qB2 := qB2.since qg11
      replace G := G.trans qg11
      have qg11_s := qg11.size
      refine call_step rfl 16 #[.agg #[.int .i64 rm0, .string d0, .bool e0, .int .i64 n0, .int .i64 rn0, .string f0, .bool g0, .int .i64 m0]] (by kernel_rfl) (hi _) ?_
      rintro _ qw12 ⟨rfl, qg13⟩
      refine ⟨_, rfl, ?_⟩
      replace qB2 := qB2.since qg13
      replace G := G.trans qg13
      have qg13_s := qg13.size
      refine step_val (w' := qw12) rfl (.int .i64 v) (by kernel_rfl) ?_
      refine wpList_frame (a' := { tmps := #[.agg #[.int .i64 rm0, .string d0, .bool e0, .int .i64 n0, .int .i64 rn0, .string f0, .bool g0, .int .i64 m0], .pointer (some ⟨w.heap.size, 0, none⟩), .bool false, .int .i64 (1048576 - d0.size - f0.size), .int .i64 v, .int .i64 v, .agg #[.int .i64 rm0, .string d0, .bool e0, .int .i64 n0, .int .i64 rn0, .string f0, .bool g0, .int .i64 m0], .int .i64 1048576, .int .i64 (1048576 - d0.size - f0.size), .int .i64 (1048576 - d0.size - f0.size), .bool (decide ((1048576 : Int) - d0.size - f0.size < 0)), .agg #[.int .i64 rm0, .string d0, .bool e0, .int .i64 n0, .int .i64 rn0, .string f0, .bool g0, .int .i64 m0], .agg #[.int .i64 rm0, .string d0, .bool e0, .int .i64 n0, .int .i64 rn0, .string f0, .bool g0, .int .i64 m0], .int .i64 v, .agg #[.int .i64 rm0, .string d0, .bool e0, .int .i64 n0, .int .i64 rn0, .string f0, .bool g0, .int .i64 m0], .agg #[.int .i64 rm0, .string d0, .bool e0, .int .i64 n0, .int .i64 rn0, .string f0, .bool g0, .int .i64 m0], .int .i64 v, undef, undef, undef], defers := [] }) (by kernel_rfl) ?_
      go_wp2_with (fail)
      go_ret
      exact ⟨rfl, G⟩

set_option maxRecDepth 100000 in
theorem lifted (os : Os) (started : os.Started) (H : Type) (enc : TypeId × Value → H) :
    ReturnsInHanded {} Try.checked os 5 .any (Rows.fnExactRelayHeldSpec.pre6 enc Try.prog Try.f5 Rows.fnExactRelayHeldRow.domain false) (Rows.fnExactRelayHeldSpec.post enc Try.prog Try.f5 false true false false) := by
  refine returnsInHanded_of_change (C := Try.checked) own started (by kernel_rfl) Try.func5
    (ChangeSpec.witness6 (enc := enc) (C := Try.checked) false ⟨#[], #[.agg #[.int .i64 0, .string ByteArray.empty, .bool false, .int .i64 0, .int .i64 0, .string ByteArray.empty, .bool false, .int .i64 0]], []⟩ 8 (by kernel_rfl) (by kernel_rfl) (by kernel_rfl) (by kernel_rfl)) ?_
  intro W base args ds gs before hval0 hW hcnd _
  have hval : ∀ (j : Nat) t v, Try.f5.params[j]? = some t → args[j]? = some v → Value.okWide Try.prog W .any base t v := hval0
  have hW' := hW
  obtain ⟨p, q, hA0, hV, rfl, hfz, hnd⟩ := hW
  have hA : DataW.TrodAll enc Try.prog W 0 (fun _ => true) true Try.f5.params.toList args.toList ds p := hA0
  rw [Try.params5] at hA hval
  obtain ⟨v0, vs0, d0, ds0, p0, q0, hargs, rfl, rfl, h0, r0⟩ := trodAll_cons hA
  obtain ⟨rfl, rfl, rfl⟩ := trodAll_nil r0
  obtain rfl : args = #[v0] := by cases args; simp_all
  obtain ⟨rfl, rfl⟩ := trodVars_none hV
  have e0 := h0
  have lt0 : ∀ x ∈ p0, x.block < W.heap.size := by obtain ⟨m, hm⟩ := e0; exact DataW.trod_lt m _ _ _ hm
  obtain ⟨rv0, dv0, ev0, nv0, sv0, fv0, gv0, mv0, rfl, x0, z0, y0⟩ := open_relay (hval 0 36 v0 rfl rfl) h0
  clear hA0 hval0
  refine (walk rv0 dv0 ev0 nv0 sv0 fv0 gv0 mv0 W x0 z0 y0).mono fun e W' ⟨he, bel⟩ => ?_
  subst he
  exact ⟨_, rfl, _, _, _, [], _, [], hW', trodAll_mk1 (shut_bool Try.underlying4 _), (trodAll_cons_mk (Below.trod laidOut (by kernel_rfl) (of_decide_eq_true (by kernel_rfl)) e0 bel lt0) trodAll_mk0), rfl, bel.frame _, fun h => by cases h⟩

theorem over : Rows.fnExactRelayHeldRow.holds Try.pinned (OpenSpec.ofChange Rows.fnExactRelayHeldSpec) :=
  OpenClaim.holds_of_wide 5 Try.f5 rfl rfl rfl rfl rfl rfl rfl ⟨rfl, rfl, rfl, rfl, rfl⟩ rfl rfl rfl rfl rfl (by kernel_rfl) Try.func5 (by kernel_rfl)
    (of_decide_eq_true (by kernel_rfl)) (by unfold Func.isWrapper; first | (rw [if_pos (by decide +kernel)]; kernel_rfl) | (rw [if_neg (by decide +kernel)]; exact ⟨rfl, rfl⟩))
    (fun os started H enc _ => lifted os started H enc)

theorem proved : Rows.FnExactRelayHeldSaid := over
end Go.Proofs.Ytipaaddjpmlajaa.fnExactRelayHeld

namespace Go.Proofs.Ytipaaddjpmlajaa
theorem fnExactRelayHeld_holds : Rows.FnExactRelayHeldSaid := fnExactRelayHeld.proved
#print axioms fnExactRelayHeld_holds
end Go.Proofs.Ytipaaddjpmlajaa
