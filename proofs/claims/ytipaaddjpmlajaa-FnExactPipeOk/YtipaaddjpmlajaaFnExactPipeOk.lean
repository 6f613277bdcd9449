/-
  Proved: at every pipe impl.PipeOk answers as spec.PipeOk (the law FnExactPipeOk returns true, and its argument reads as before); no condition (of a pipe whose Data has more than 1048576 bytes the law asks nothing).
-/
import Derived.Test.YtipaaddjpmlajaaRows
import Derived.Test.YtipaaddjpmlajaaPipe
import Derived.WalkKit
import Derived.ProofKit
import Derived.OpenShut
import Derived.ShutString
import Derived.ChangeOld
import Derived.Below
import Derived.Carry
namespace Go.Proofs.Ytipaaddjpmlajaa.fnExactPipeOk
open Go.ChangeShapes Go.WideShapes Go.ChangeAt Go.RowKit
open Go.ChangeMaps (open_string shut_string)
set_option linter.unusedVariables false

theorem own : ownKnob Try.prog.godebug = none := by kernel_rfl
theorem laidOut : laidOutB Try.prog = true := by kernel_rfl

theorem walk (rm0 : Int) (d0 : ByteArray) (e0 : Bool) (n0 : Int) (w : World) (x0 : (Lit.int .i64 rm0).wf = true) (z0 : d0.size ≤ maxLen) (y0 : (Lit.int .i64 n0).wf = true) :
    Calls Try.prog 3 #[.agg #[.int .i64 rm0, .string d0, .bool e0, .int .i64 n0]] w fun e w' => e = .returned (.bool true) ∧ Below w.heap.size w w' := by
  have hsz := fun wx => szPipe rm0 d0 e0 n0 1048576 (by omega) (by unfold maxLen at z0; omega) wx
  have hto := fun wx => toPipe rm0 d0 e0 n0 wx
  have hs := fun wx => specPipeOk rm0 d0 e0 n0 wx
  have hi := fun wx => implPipeOk rm0 d0 e0 n0 wx
  generalize pipeOk rm0 d0 n0 = b at hs hi
  have K : ∀ wx, Since (w.alloc (.cells #[.int .i64 rm0, .string d0, .bool e0, .int .i64 n0] 23)) wx → wx.cell? ⟨w.heap.size, 0, none⟩ = some (.int .i64 rm0) ∧ wx.cell? ⟨w.heap.size, 1, none⟩ = some (.string d0) ∧ wx.cell? ⟨w.heap.size, 2, none⟩ = some (.bool e0) ∧ wx.cell? ⟨w.heap.size, 3, none⟩ = some (.int .i64 n0) := fun wx h => by
    have k := (Blk.new w #[.int .i64 rm0, .string d0, .bool e0, .int .i64 n0] 23).since h
    exact ⟨by simpa using k.cell 0, by simpa using k.cell 1, by simpa using k.cell 2, by simpa using k.cell 3⟩
  by_cases hbig : (d0.size : Int) ≤ 1048576
  · rw [if_pos hbig] at hsz
    unfold ppVal at *
    have G := Since.refl (w.alloc (.cells #[.int .i64 rm0, .string d0, .bool e0, .int .i64 n0] 23))
    go_enter Try.func3, Try.ntmps3
    go_wp2_with (first | (go_at_call 6; refine (hsz _).mono ?_; rintro _ w1 ⟨rfl, g1⟩; replace G := Since.trans G g1; obtain ⟨C0, C1, C2, C3⟩ := K _ G) | (go_at_call 8; refine (hto _).mono ?_; rintro _ w2 ⟨rfl, g2⟩; replace G := Since.trans G g2; obtain ⟨C0, C1, C2, C3⟩ := K _ G) | (go_at_call 7; refine (hs _).mono ?_; rintro _ w3 ⟨rfl, g3⟩; replace G := Since.trans G g3; obtain ⟨C0, C1, C2, C3⟩ := K _ G) | (go_at_call 9; refine (hi _).mono ?_; rintro _ w4 ⟨rfl, g4⟩; replace G := Since.trans G g4))
    go_ret
    exact ⟨rfl, ((Since.refl _).alloc _).trans G⟩
  · rw [if_neg hbig] at hsz
    unfold ppVal at *
    go_enter Try.func3, Try.ntmps3
    go_wp2_with (go_at_call 6; refine (hsz _).mono ?_; rintro _ w1 ⟨rfl, g1⟩)
    go_ret
    exact ⟨rfl, ((Since.refl _).alloc _).trans g1⟩

set_option maxRecDepth 100000 in
theorem lifted (os : Os) (started : os.Started) (H : Type) (enc : TypeId × Value → H) :
    ReturnsInHanded {} Try.checked os 3 .any (Rows.fnExactPipeOkSpec.pre6 enc Try.prog Try.f3 Rows.fnExactPipeOkRow.domain false) (Rows.fnExactPipeOkSpec.post enc Try.prog Try.f3 false true false false) := by
  refine returnsInHanded_of_change (C := Try.checked) own started (by kernel_rfl) Try.func3
    (ChangeSpec.witness6 (enc := enc) (C := Try.checked) false ⟨#[], #[.agg #[.int .i64 0, .string ByteArray.empty, .bool false, .int .i64 0]], []⟩ 8 (by kernel_rfl) (by kernel_rfl) (by kernel_rfl) (by kernel_rfl)) ?_
  intro W base args ds gs before hval0 hW hcnd _
  have hval : ∀ (j : Nat) t v, Try.f3.params[j]? = some t → args[j]? = some v → Value.okWide Try.prog W .any base t v := hval0
  have hW' := hW
  obtain ⟨p, q, hA0, hV, rfl, hfz, hnd⟩ := hW
  have hA : DataW.TrodAll enc Try.prog W 0 (fun _ => true) true Try.f3.params.toList args.toList ds p := hA0
  rw [Try.params3] at hA hval
  obtain ⟨v0, vs0, d0, ds0, p0, q0, hargs, rfl, rfl, h0, r0⟩ := trodAll_cons hA
  obtain ⟨rfl, rfl, rfl⟩ := trodAll_nil r0
  obtain rfl : args = #[v0] := by cases args; simp_all
  obtain ⟨rfl, rfl⟩ := trodVars_none hV
  have e0 := h0
  have lt0 : ∀ x ∈ p0, x.block < W.heap.size := by obtain ⟨m, hm⟩ := e0; exact DataW.trod_lt m _ _ _ hm
  obtain ⟨rv0, dv0, ev0, nv0, rfl, x0, z0, y0⟩ := open_pipe (hval 0 23 v0 rfl rfl) h0
  clear hA0 hval0
  refine (walk rv0 dv0 ev0 nv0 W x0 z0 y0).mono fun e W' ⟨he, bel⟩ => ?_
  subst he
  exact ⟨_, rfl, _, _, _, [], _, [], hW', trodAll_mk1 (shut_bool Try.underlying4 _), (trodAll_cons_mk (Below.trod laidOut (by kernel_rfl) (of_decide_eq_true (by kernel_rfl)) e0 bel lt0) trodAll_mk0), rfl, bel.frame _, fun h => by cases h⟩

theorem over : Rows.fnExactPipeOkRow.holds Try.pinned (OpenSpec.ofChange Rows.fnExactPipeOkSpec) :=
  OpenClaim.holds_of_wide 3 Try.f3 rfl rfl rfl rfl rfl rfl rfl ⟨rfl, rfl, rfl, rfl, rfl⟩ rfl rfl rfl rfl rfl (by kernel_rfl) Try.func3 (by kernel_rfl)
    (of_decide_eq_true (by kernel_rfl)) (by unfold Func.isWrapper; first | (rw [if_pos (by decide +kernel)]; kernel_rfl) | (rw [if_neg (by decide +kernel)]; exact ⟨rfl, rfl⟩))
    (fun os started H enc _ => lifted os started H enc)

theorem proved : Rows.FnExactPipeOkSaid := over
end Go.Proofs.Ytipaaddjpmlajaa.fnExactPipeOk

namespace Go.Proofs.Ytipaaddjpmlajaa
theorem fnExactPipeOk_holds : Rows.FnExactPipeOkSaid := fnExactPipeOk.proved
#print axioms fnExactPipeOk_holds
end Go.Proofs.Ytipaaddjpmlajaa
