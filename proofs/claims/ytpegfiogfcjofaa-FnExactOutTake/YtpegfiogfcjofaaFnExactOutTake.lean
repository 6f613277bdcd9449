/-
  Proved: at every buffer of bytes to be sent, every place and every number impl.OutTake answers as spec.OutTake (the law FnExactOutTake returns true, and its arguments read as before); no condition (of a buffer whose Data has more than 1048576 bytes the law asks nothing).
-/
import Derived.Test.YtpegfiogfcjofaaRows
import Derived.Test.YtpegfiogfcjofaaOutImpl3
import Derived.WalkKit
import Derived.ProofKit
import Derived.OpenShut
import Derived.ShutString
import Derived.ChangeOld
import Derived.Below
import Derived.Carry
namespace Go.Proofs.Ytpegfiogfcjofaa.fnExactOutTake
open Go.ChangeShapes Go.WideShapes Go.ChangeAt Go.RowKit
open Go.ChangeMaps (open_string shut_string)
set_option linter.unusedVariables false

theorem own : ownKnob Try.prog.godebug = none := by kernel_rfl
theorem laidOut : laidOutB Try.prog = true := by kernel_rfl

theorem walk (f0 : Int) (d0 : ByteArray) (r0 : Int) (b1 : Int) (b2 : Int) (w : World) (x0 : (Lit.int .u32 f0).wf = true) (z0 : d0.size ≤ maxLen) (y0 : (Lit.int .i64 r0).wf = true) (x1 : (Lit.int .u32 b1).wf = true) (x2 : (Lit.int .i64 b2).wf = true) :
    Calls Try.prog 7 #[outVal f0 d0 r0, .int .u32 b1, .int .i64 b2] w fun e w' => e = .returned (.bool true) ∧ Below w.heap.size w w' := by
  have hsz := fun wx => szOut f0 d0 r0 1048576 (by omega) (by unfold maxLen at z0; omega) wx
  have hto := fun wx => toOut f0 d0 r0 wx
  have K : ∀ wx, Since (w.alloc (.cells #[.int .u32 f0, .string d0, .int .i64 r0] 48)) wx → wx.cell? ⟨w.heap.size, 0, none⟩ = some (.int .u32 f0) ∧ wx.cell? ⟨w.heap.size, 1, none⟩ = some (.string d0) ∧ wx.cell? ⟨w.heap.size, 2, none⟩ = some (.int .i64 r0) := fun wx h => by
    have k := (Blk.new w #[.int .u32 f0, .string d0, .int .i64 r0] 48).since h
    exact ⟨by simpa using k.cell 0, by simpa using k.cell 1, by simpa using k.cell 2⟩
  obtain ⟨at', ha⟩ := isDist_ex f0 b1
  have hb2 : IsInt b2 := by have := bounds_i64 x2; unfold IsInt; omega
  by_cases hbig : (d0.size : Int) ≤ 1048576
  · rw [if_pos hbig] at hsz
    have hbig' : d0.size ≤ 1048576 := by omega
    have hs := fun wx => specOutTake f0 d0 r0 b1 b2 at' (isWord_wf x0) (isWord_wf x1) ha hbig' hb2 wx
    have hi := fun wx => implOutTake f0 d0 r0 b1 b2 at' (isWord_wf x0) (isWord_wf x1) ha hbig' hb2 wx
    generalize takeT f0 d0 r0 b1 b2 at' = D at hs hi
    unfold outVal at *
    have G := Since.refl (w.alloc (.cells #[.int .u32 f0, .string d0, .int .i64 r0] 48))
    go_enter Try.func7, Try.ntmps7
    go_wp2_with (first | (go_at_call 26; refine (hsz _).mono ?_; rintro _ w1 ⟨rfl, g1⟩; replace G := Since.trans G g1; obtain ⟨C0, C1, C2⟩ := K _ G) | (go_at_call 27; refine (hto _).mono ?_; rintro _ w2 ⟨rfl, g2⟩; replace G := Since.trans G g2; obtain ⟨C0, C1, C2⟩ := K _ G) | (go_at_call 30; refine (hs _).mono ?_; rintro _ w3 ⟨rfl, g3⟩; replace G := Since.trans G g3; obtain ⟨C0, C1, C2⟩ := K _ G) | (go_at_call 15; refine (hi _).mono ?_; rintro _ w5 ⟨rfl, g5⟩; replace G := Since.trans G g5))
    go_ret
    exact ⟨rfl, ((Since.refl _).alloc _).trans G⟩
  · rw [if_neg hbig] at hsz
    unfold outVal at *
    go_enter Try.func7, Try.ntmps7
    go_wp2_with (go_at_call 26; refine (hsz _).mono ?_; rintro _ w1 ⟨rfl, g1⟩)
    go_ret
    exact ⟨rfl, ((Since.refl _).alloc _).trans g1⟩

set_option maxRecDepth 100000 in
theorem lifted (os : Os) (started : os.Started) (H : Type) (enc : TypeId × Value → H) :
    ReturnsInHanded {} Try.checked os 7 .any (Rows.fnExactOutTakeSpec.pre6 enc Try.prog Try.f7 Rows.fnExactOutTakeRow.domain false) (Rows.fnExactOutTakeSpec.post enc Try.prog Try.f7 false true false false) := by
  refine returnsInHanded_of_change (C := Try.checked) own started (by kernel_rfl) Try.func7
    (ChangeSpec.witness6 (enc := enc) (C := Try.checked) false ⟨#[], #[.agg #[.int .u32 0, .string ByteArray.empty, .int .i64 0], .int .u32 0, .int .i64 0], []⟩ 8 (by kernel_rfl) (by kernel_rfl) (by kernel_rfl) (by kernel_rfl)) ?_
  intro W base args ds gs before hval0 hW hcnd _
  have hval : ∀ (j : Nat) t v, Try.f7.params[j]? = some t → args[j]? = some v → Value.okWide Try.prog W .any base t v := hval0
  have hW' := hW
  obtain ⟨p, q, hA0, hV, rfl, hfz, hnd⟩ := hW
  have hA : DataW.TrodAll enc Try.prog W 0 (fun _ => true) true Try.f7.params.toList args.toList ds p := hA0
  rw [Try.params7] at hA hval
  obtain ⟨v0, vs0, d0, ds0, p0, q0, hargs, rfl, rfl, h0, r0⟩ := trodAll_cons hA
  obtain ⟨v1, vs1, d1, ds1, p1, q1, rfl, rfl, rfl, h1, r1⟩ := trodAll_cons r0
  obtain ⟨v2, vs2, d2, ds2, p2, q2, rfl, rfl, rfl, h2, r2⟩ := trodAll_cons r1
  obtain ⟨rfl, rfl, rfl⟩ := trodAll_nil r2
  obtain rfl : args = #[v0, v1, v2] := by cases args; simp_all
  obtain ⟨rfl, rfl⟩ := trodVars_none hV
  have e0 := h0
  have lt0 : ∀ x ∈ p0, x.block < W.heap.size := by obtain ⟨m, hm⟩ := e0; exact DataW.trod_lt m _ _ _ hm
  have e1 := h1
  have lt1 : ∀ x ∈ p1, x.block < W.heap.size := by obtain ⟨m, hm⟩ := e1; exact DataW.trod_lt m _ _ _ hm
  have e2 := h2
  have lt2 : ∀ x ∈ p2, x.block < W.heap.size := by obtain ⟨m, hm⟩ := e2; exact DataW.trod_lt m _ _ _ hm
  obtain ⟨fv0, dv0, rv0, rfl, x0, z0, y0⟩ := open_out (hval 0 48 v0 rfl rfl) h0
  obtain ⟨b1, rfl, _, _, x1⟩ := open_int Try.underlying24 (hval 1 24 v1 rfl rfl) h1
  obtain ⟨b2, rfl, _, _, x2⟩ := open_int Try.underlying3 (hval 2 3 v2 rfl rfl) h2
  clear hA0 hval0
  refine (walk fv0 dv0 rv0 b1 b2 W x0 z0 y0 x1 x2).mono fun e W' ⟨he, bel⟩ => ?_
  subst he
  exact ⟨_, rfl, _, _, _, [], _, [], hW', trodAll_mk1 (shut_bool Try.underlying4 _), (trodAll_cons_mk (Below.trod laidOut (by kernel_rfl) (of_decide_eq_true (by kernel_rfl)) e0 bel lt0) (trodAll_cons_mk (Below.trod laidOut (by kernel_rfl) (of_decide_eq_true (by kernel_rfl)) e1 bel lt1) (trodAll_cons_mk (Below.trod laidOut (by kernel_rfl) (of_decide_eq_true (by kernel_rfl)) e2 bel lt2) trodAll_mk0))), rfl, bel.frame _, fun h => by cases h⟩

theorem over : Rows.fnExactOutTakeRow.holds Try.pinned (OpenSpec.ofChange Rows.fnExactOutTakeSpec) :=
  OpenClaim.holds_of_wide 7 Try.f7 rfl rfl rfl rfl rfl rfl rfl ⟨rfl, rfl, rfl, rfl, rfl⟩ rfl rfl rfl rfl rfl (by kernel_rfl) Try.func7 (by kernel_rfl)
    (of_decide_eq_true (by kernel_rfl)) (by unfold Func.isWrapper; first | (rw [if_pos (by decide +kernel)]; kernel_rfl) | (rw [if_neg (by decide +kernel)]; exact ⟨rfl, rfl⟩))
    (fun os started H enc _ => lifted os started H enc)

theorem proved : Rows.FnExactOutTakeSaid := over
end Go.Proofs.Ytpegfiogfcjofaa.fnExactOutTake

namespace Go.Proofs.Ytpegfiogfcjofaa
theorem fnExactOutTake_holds : Rows.FnExactOutTakeSaid := fnExactOutTake.proved
#print axioms fnExactOutTake_holds
end Go.Proofs.Ytpegfiogfcjofaa
