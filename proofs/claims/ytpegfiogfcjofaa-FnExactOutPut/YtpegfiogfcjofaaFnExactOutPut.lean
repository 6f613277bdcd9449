/-
  Proved: at every buffer of bytes to be sent and every text impl.OutPut answers as spec.OutPut (the law FnExactOutPut returns true, and its arguments read as before); no condition (of a buffer or a text of more than 1048576 bytes the law asks nothing).
-/
import Derived.Test.YtpegfiogfcjofaaRows
import Derived.Test.YtpegfiogfcjofaaOutImpl2
import Derived.WalkKit
import Derived.ProofKit
import Derived.OpenShut
import Derived.ShutString
import Derived.ChangeOld
import Derived.Below
import Derived.Carry
namespace Go.Proofs.Ytpegfiogfcjofaa.fnExactOutPut
open Go.ChangeShapes Go.WideShapes Go.ChangeAt Go.RowKit
open Go.ChangeMaps (open_string shut_string)
set_option linter.unusedVariables false

theorem own : ownKnob Try.prog.godebug = none := by kernel_rfl
theorem laidOut : laidOutB Try.prog = true := by kernel_rfl

theorem walk (f0 : Int) (d0 : ByteArray) (r0 : Int) (b1 : ByteArray) (w : World) (x0 : (Lit.int .u32 f0).wf = true) (z0 : d0.size ≤ maxLen) (y0 : (Lit.int .i64 r0).wf = true) (z1 : b1.size ≤ maxLen) :
    Calls Try.prog 6 #[outVal f0 d0 r0, .string b1] w fun e w' => e = .returned (.bool true) ∧ Below w.heap.size w w' := by
  have hsz := fun wx => szOut f0 d0 r0 1048576 (by omega) (by unfold maxLen at z0; omega) wx
  have hto := fun wx => toOut f0 d0 r0 wx
  have K : ∀ wx, Since (w.alloc (.cells #[.int .u32 f0, .string d0, .int .i64 r0] 48)) wx → wx.cell? ⟨w.heap.size, 0, none⟩ = some (.int .u32 f0) ∧ wx.cell? ⟨w.heap.size, 1, none⟩ = some (.string d0) ∧ wx.cell? ⟨w.heap.size, 2, none⟩ = some (.int .i64 r0) := fun wx h => by
    have k := (Blk.new w #[.int .u32 f0, .string d0, .int .i64 r0] 48).since h
    exact ⟨by simpa using k.cell 0, by simpa using k.cell 1, by simpa using k.cell 2⟩
  unfold maxLen at z1
  by_cases hb1 : 1048576 < (b1.size : Int)
  · clear hsz hto
    unfold outVal at *
    go_enter Try.func6, Try.ntmps6
    go_wp2
    go_ret
    exact ⟨rfl, (Since.refl _).alloc _⟩
  have hb1' : b1.size ≤ 1048576 := by omega
  by_cases hbig : (d0.size : Int) ≤ 1048576
  · rw [if_pos hbig] at hsz
    have hbig' : d0.size ≤ 1048576 := by omega
    have hs := fun wx => specOutPut f0 d0 r0 b1 hbig' hb1' wx
    have hi := fun wx => implOutPut f0 d0 r0 b1 (isWord_wf x0) hbig' hb1' wx
    generalize putD d0 r0 b1 = D at hs hi
    generalize putN d0 r0 b1 = N at hs hi
    unfold outVal at *
    have G := Since.refl (w.alloc (.cells #[.int .u32 f0, .string d0, .int .i64 r0] 48))
    go_enter Try.func6, Try.ntmps6
    go_wp2_with (first | (go_at_call 26; refine (hsz _).mono ?_; rintro _ w1 ⟨rfl, g1⟩; replace G := Since.trans G g1; obtain ⟨C0, C1, C2⟩ := K _ G) | (go_at_call 27; refine (hto _).mono ?_; rintro _ w2 ⟨rfl, g2⟩; replace G := Since.trans G g2; obtain ⟨C0, C1, C2⟩ := K _ G))
    refine (hs _).mono ?_
    rintro _ w3 ⟨rfl, g3⟩
    have X := Blk.new w3 #[.int .u32 f0, .string D, .int .i64 r0] 26
    replace G := (Since.trans G g3).alloc (.cells #[.int .u32 f0, .string D, .int .i64 r0] 26)
    obtain ⟨D0, D1, D2⟩ := K _ G
    clear C0 C1 C2
    go_wp2_with (fail)
    refine (hto _).mono ?_
    rintro _ w4 ⟨rfl, g4⟩
    replace G := Since.trans G g4
    replace X := X.since g4
    clear D0 D1 D2
    go_wp2_with (fail)
    refine (hi _).mono ?_
    rintro _ w5 ⟨rfl, g5⟩
    have Y := Blk.new w5 #[.int .u32 f0, .string D, .int .i64 r0] 26
    replace G := (Since.trans G g5).alloc (.cells #[.int .u32 f0, .string D, .int .i64 r0] 26)
    replace X := (X.since g5).since ((Since.refl _).alloc (.cells #[.int .u32 f0, .string D, .int .i64 r0] 26))
    have x0 := X.cell 0
    have x1 := X.cell 1
    have x2 := X.cell 2
    have y0 := Y.cell 0
    have y1 := Y.cell 1
    have y2 := Y.cell 2
    simp at x0 x1 x2 y0 y1 y2
    go_wp2_with (go_at_call 29; refine (eqOut f0 D r0 _).mono ?_; rintro _ w6 ⟨rfl, g6⟩)
    go_ret
    exact ⟨rfl, ((Since.refl _).alloc _).trans (G.trans g6)⟩
  · rw [if_neg hbig] at hsz
    unfold outVal at *
    go_enter Try.func6, Try.ntmps6
    go_wp2_with (go_at_call 26; refine (hsz _).mono ?_; rintro _ w1 ⟨rfl, g1⟩)
    go_ret
    exact ⟨rfl, ((Since.refl _).alloc _).trans g1⟩

set_option maxRecDepth 100000 in
theorem lifted (os : Os) (started : os.Started) (H : Type) (enc : TypeId × Value → H) :
    ReturnsInHanded {} Try.checked os 6 .any (Rows.fnExactOutPutSpec.pre6 enc Try.prog Try.f6 Rows.fnExactOutPutRow.domain false) (Rows.fnExactOutPutSpec.post enc Try.prog Try.f6 false true false false) := by
  refine returnsInHanded_of_change (C := Try.checked) own started (by kernel_rfl) Try.func6
    (ChangeSpec.witness6 (enc := enc) (C := Try.checked) false ⟨#[], #[.agg #[.int .u32 0, .string ByteArray.empty, .int .i64 0], .string ByteArray.empty], []⟩ 8 (by kernel_rfl) (by kernel_rfl) (by kernel_rfl) (by kernel_rfl)) ?_
  intro W base args ds gs before hval0 hW hcnd _
  have hval : ∀ (j : Nat) t v, Try.f6.params[j]? = some t → args[j]? = some v → Value.okWide Try.prog W .any base t v := hval0
  have hW' := hW
  obtain ⟨p, q, hA0, hV, rfl, hfz, hnd⟩ := hW
  have hA : DataW.TrodAll enc Try.prog W 0 (fun _ => true) true Try.f6.params.toList args.toList ds p := hA0
  rw [Try.params6] at hA hval
  obtain ⟨v0, vs0, d0, ds0, p0, q0, hargs, rfl, rfl, h0, r0⟩ := trodAll_cons hA
  obtain ⟨v1, vs1, d1, ds1, p1, q1, rfl, rfl, rfl, h1, r1⟩ := trodAll_cons r0
  obtain ⟨rfl, rfl, rfl⟩ := trodAll_nil r1
  obtain rfl : args = #[v0, v1] := by cases args; simp_all
  obtain ⟨rfl, rfl⟩ := trodVars_none hV
  have e0 := h0
  have lt0 : ∀ x ∈ p0, x.block < W.heap.size := by obtain ⟨m, hm⟩ := e0; exact DataW.trod_lt m _ _ _ hm
  have e1 := h1
  have lt1 : ∀ x ∈ p1, x.block < W.heap.size := by obtain ⟨m, hm⟩ := e1; exact DataW.trod_lt m _ _ _ hm
  obtain ⟨fv0, dv0, rv0, rfl, x0, z0, y0⟩ := open_out (hval 0 48 v0 rfl rfl) h0
  obtain ⟨b1, rfl, _, _, z1⟩ := open_string Try.underlying9 (hval 1 9 v1 rfl rfl) h1
  clear hA0 hval0
  refine (walk fv0 dv0 rv0 b1 W x0 z0 y0 z1).mono fun e W' ⟨he, bel⟩ => ?_
  subst he
  exact ⟨_, rfl, _, _, _, [], _, [], hW', trodAll_mk1 (shut_bool Try.underlying4 _), (trodAll_cons_mk (Below.trod laidOut (by kernel_rfl) (of_decide_eq_true (by kernel_rfl)) e0 bel lt0) (trodAll_cons_mk (Below.trod laidOut (by kernel_rfl) (of_decide_eq_true (by kernel_rfl)) e1 bel lt1) trodAll_mk0)), rfl, bel.frame _, fun h => by cases h⟩

theorem over : Rows.fnExactOutPutRow.holds Try.pinned (OpenSpec.ofChange Rows.fnExactOutPutSpec) :=
  OpenClaim.holds_of_wide 6 Try.f6 rfl rfl rfl rfl rfl rfl rfl ⟨rfl, rfl, rfl, rfl, rfl⟩ rfl rfl rfl rfl rfl (by kernel_rfl) Try.func6 (by kernel_rfl)
    (of_decide_eq_true (by kernel_rfl)) (by unfold Func.isWrapper; first | (rw [if_pos (by decide +kernel)]; kernel_rfl) | (rw [if_neg (by decide +kernel)]; exact ⟨rfl, rfl⟩))
    (fun os started H enc _ => lifted os started H enc)

theorem proved : Rows.FnExactOutPutSaid := over
end Go.Proofs.Ytpegfiogfcjofaa.fnExactOutPut

namespace Go.Proofs.Ytpegfiogfcjofaa
theorem fnExactOutPut_holds : Rows.FnExactOutPutSaid := fnExactOutPut.proved
#print axioms fnExactOutPut_holds
end Go.Proofs.Ytpegfiogfcjofaa
