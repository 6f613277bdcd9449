/-
  Proved: at every two hosts and every segment impl.PutSeg answers as spec.PutSeg (the law FnExactPutSeg returns true, and its arguments read as before); no condition (of a segment whose Data has more than 1048576 bytes the law asks nothing).
  The frame was written by program (the guide's proof-skeleton); the walk and what it rests on are typed.
-/
import Derived.Test.YtneicghhggidnaaRows
import Derived.Test.YtneicghhggidnaaAgg
import Derived.Test.YtneicghhggidnaaSpecPutSeg
import Derived.WalkKit
import Derived.ProofKit
import Derived.OpenShut
import Derived.ShutString
namespace Go.Proofs.Ytneicghhggidnaa.fnExactPutSeg
open Go.ChangeShapes Go.WideShapes Go.ChangeAt Go.RowKit
open Go.ChangeMaps (open_string shut_string)
set_option linter.unusedVariables false      -- a walk need not use every 'w<i>' (that an integer argument fits its kind)

theorem own : ownKnob Try.prog.godebug = none := by kernel_rfl

/-! ### STEP 1: THE WALK: the Go text returns true. 'Grown w w'': the world has at most new blocks (Derived/RowKit3.lean). Part the cases AHEAD of 'go_enter' where a test parts the walk; take each callee by a contract of your own. -/
theorem walk (a0 : Int) (w0 : (Lit.int .u32 a0).wf = true) (a1 : Int) (w1 : (Lit.int .u32 a1).wf = true) (a2 : Int) (w2 : (Lit.int .i64 a2).wf = true) (a3 : Int) (w3 : (Lit.int .i64 a3).wf = true) (a4 : Int) (w4 : (Lit.int .u32 a4).wf = true) (a5 : Int) (w5 : (Lit.int .u32 a5).wf = true) (a6 : Int) (w6 : (Lit.int .i64 a6).wf = true) (a7 : Int) (w7 : (Lit.int .i64 a7).wf = true) (a8 : Int) (w8 : (Lit.int .i64 a8).wf = true) (a9 : ByteArray) (w9 : a9.size ≤ maxLen) (w : World) :
    Calls Try.prog 6 #[.int .u32 a0, .int .u32 a1, .agg #[.int .i64 a2, .int .i64 a3, .int .u32 a4, .int .u32 a5, .int .i64 a6, .int .i64 a7, .int .i64 a8, .string a9]] w fun e w' => e = .returned (.bool true) ∧ Below w.heap.size w w' := by
  have hsz := fun wx => szSeg a2 a3 a4 a5 a6 a7 a8 a9 1048576 (by omega) w9 wx
  have hto := fun wx => toSeg a2 a3 a4 a5 a6 a7 a8 a9 wx
  by_cases hbig : (a9.size : Int) ≤ 1048576
  · rw [if_pos hbig] at hsz
    have hs := fun wx => specPutSeg a0 a1 a2 a3 a4 a5 a6 a7 a8 a9 (isWord_wf w0) (isWord_wf w1) (isWord_wf w4) (isWord_wf w5) (isInt_wf w6) wx
    have hi := fun wx => implPutSeg a0 a1 a2 a3 a4 a5 a6 a7 a8 a9 (isWord_wf w0) (isWord_wf w1) (isWord_wf w4) (isWord_wf w5) (isInt_wf w6) wx
    generalize putSeg a0 a1 a2 a3 a4 a5 a6 a7 a8 a9 = b at hs hi
    unfold segVal at hsz hto hs hi
    have G := Since.refl (w.alloc (.cells #[.int .i64 a2, .int .i64 a3, .int .u32 a4, .int .u32 a5, .int .i64 a6, .int .i64 a7, .int .i64 a8, .string a9] 32))
    go_enter Try.func6, Try.ntmps6
    go_wp2_with (first | (go_at_call 14; refine (hsz _).mono ?_; rintro _ w1 ⟨rfl, g1⟩; replace G := Since.trans G g1; obtain ⟨C0, C1, C2, C3, C4, C5, C6, C7⟩ := kept8 G) | (go_at_call 16; refine (hto _).mono ?_; rintro _ w2 ⟨rfl, g2⟩; replace G := Since.trans G g2; obtain ⟨C0, C1, C2, C3, C4, C5, C6, C7⟩ := kept8 G) | (go_at_call 18; refine (hs _).mono ?_; rintro _ w3 ⟨rfl, g3⟩; replace G := Since.trans G g3; obtain ⟨C0, C1, C2, C3, C4, C5, C6, C7⟩ := kept8 G) | (go_at_call 19; refine (hi _).mono ?_; rintro _ w4 ⟨rfl, g4⟩; replace G := Since.trans G g4; obtain ⟨C0, C1, C2, C3, C4, C5, C6, C7⟩ := kept8 G))
    go_ret
    exact ⟨rfl, ((Since.refl _).alloc _).trans G⟩
  · rw [if_neg hbig] at hsz
    unfold segVal at hsz
    go_enter Try.func6, Try.ntmps6
    go_wp2_with (go_at_call 14; refine (hsz _).mono ?_; rintro _ w1 ⟨rfl, g1⟩)
    go_ret
    exact ⟨rfl, ((Since.refl _).alloc _).trans g1⟩

/-! ### THE ROW's STEP: WRITTEN OUT: LEAVE IT -/
set_option maxRecDepth 100000 in
theorem lifted (os : Os) (started : os.Started) (H : Type) (enc : TypeId × Value → H) :
    ReturnsInHanded {} Try.checked os 6 .any (Rows.fnExactPutSegSpec.pre6 enc Try.prog Try.f6 Rows.fnExactPutSegRow.domain false) (Rows.fnExactPutSegSpec.post enc Try.prog Try.f6 false true false false) := by
  refine returnsInHanded_of_change (C := Try.checked) own started (by kernel_rfl) Try.func6
    (ChangeSpec.witness6 (enc := enc) (C := Try.checked) false ⟨#[], #[.int .u32 0, .int .u32 0, .agg #[.int .i64 0, .int .i64 0, .int .u32 0, .int .u32 0, .int .i64 0, .int .i64 0, .int .i64 0, .string ByteArray.empty]], []⟩ 8 (by kernel_rfl) (by kernel_rfl) (by kernel_rfl) (by kernel_rfl)) ?_
  intro W base args ds gs before hval0 hW hcnd _
  have hval : ∀ (j : Nat) t v, Try.f6.params[j]? = some t → args[j]? = some v → Value.okWide Try.prog W .any base t v := hval0
  have hW' := hW
  obtain ⟨p, q, hA0, hV, rfl, hfz, hnd⟩ := hW
  have hA : DataW.TrodAll enc Try.prog W 0 (fun _ => true) true Try.f6.params.toList args.toList ds p := hA0
  rw [Try.params6] at hA hval
  obtain ⟨v0, vs0, d0, ds0, p0, q0, hargs, rfl, rfl, h0, r0⟩ := trodAll_cons hA
  obtain ⟨v1, vs1, d1, ds1, p1, q1, rfl, rfl, rfl, h1, r1⟩ := trodAll_cons r0
  obtain ⟨v2, vs2, d2, ds2, p2, q2, rfl, rfl, rfl, h2, r2⟩ := trodAll_cons r1
  obtain ⟨rfl, rfl, rfl⟩ := trodAll_nil r2
  obtain rfl : args = #[v0, v1, v2] := by cases args; simp_all
  obtain ⟨rfl, rfl⟩ := trodVars_none hV
  obtain ⟨a0, rfl, rfl, rfl, w0⟩ := open_int Try.underlying22 (hval 0 22 v0 rfl rfl) h0
  obtain ⟨a1, rfl, rfl, rfl, w1⟩ := open_int Try.underlying22 (hval 1 22 v1 rfl rfl) h1
  obtain ⟨cs, ys, m2, rfl, hcs, rfl, rfl, hys, hf⟩ := open_aggs Try.underlying32 (by kernel_rfl) (by kernel_rfl) (hval 2 32 v2 rfl rfl) h2
  obtain ⟨c2, c3, c4, c5, c6, c7, c8, c9, rfl⟩ := array8 hcs
  obtain ⟨y2, y3, y4, y5, y6, y7, y8, y9, rfl⟩ := list8 hys
  have k2 := hf 0 _ rfl c2 y2 rfl rfl
  obtain ⟨a2, e2, rfl, w2⟩ := DataW.trod_int Try.underlying3 k2
  simp at e2
  subst e2
  have k3 := hf 1 _ rfl c3 y3 rfl rfl
  obtain ⟨a3, e3, rfl, w3⟩ := DataW.trod_int Try.underlying3 k3
  simp at e3
  subst e3
  have k4 := hf 2 _ rfl c4 y4 rfl rfl
  obtain ⟨a4, e4, rfl, w4⟩ := DataW.trod_int Try.underlying22 k4
  simp at e4
  subst e4
  have k5 := hf 3 _ rfl c5 y5 rfl rfl
  obtain ⟨a5, e5, rfl, w5⟩ := DataW.trod_int Try.underlying22 k5
  simp at e5
  subst e5
  have k6 := hf 4 _ rfl c6 y6 rfl rfl
  obtain ⟨a6, e6, rfl, w6⟩ := DataW.trod_int Try.underlying3 k6
  simp at e6
  subst e6
  have k7 := hf 5 _ rfl c7 y7 rfl rfl
  obtain ⟨a7, e7, rfl, w7⟩ := DataW.trod_int Try.underlying3 k7
  simp at e7
  subst e7
  have k8 := hf 6 _ rfl c8 y8 rfl rfl
  obtain ⟨a8, e8, rfl, w8⟩ := DataW.trod_int Try.underlying3 k8
  simp at e8
  subst e8
  have k9 := hf 7 _ rfl c9 y9 rfl rfl
  obtain ⟨a9, e9, rfl, w9⟩ := DataW.trod_string Try.underlying9 k9
  simp at e9
  subst e9
  clear hf hcs hys
  clear hA0 hval0
  simp only [List.flatMap_cons, List.flatMap_nil, List.map_cons, List.map_nil, List.append_nil] at hW'
  refine (walk a0 w0 a1 w1 a2 w2 a3 w3 a4 w4 a5 w5 a6 w6 a7 w7 a8 w8 a9 w9 W).mono fun e W' ⟨he, hg⟩ => ?_
  subst he
  exact ⟨_, rfl, _, _, _, [], [], [], hW', (trodAll_cons_mk (shut_bool Try.underlying4 _) trodAll_mk0), (trodAll_cons_mk (shut_int Try.underlying22 w0) (trodAll_cons_mk (shut_int Try.underlying22 w1) (trodAll_cons_mk (⟨2, trod_struct_mk (n := 1) (cs := [.int .i64 a2, .int .i64 a3, .int .u32 a4, .int .u32 a5, .int .i64 a6, .int .i64 a7, .int .i64 a8, .string a9]) (xs := [(.lit (.int .i64 a2), []), (.lit (.int .i64 a3), []), (.lit (.int .u32 a4), []), (.lit (.int .u32 a5), []), (.lit (.int .i64 a6), []), (.lit (.int .i64 a7), []), (.lit (.int .i64 a8), []), (.lit (.string a9.data.toList), [])]) Try.underlying32 (by kernel_rfl) (by simp [show Try.prog.cellsOf 22 = 1 by kernel_rfl, show Try.prog.cellsOf 3 = 1 by kernel_rfl, show Try.prog.cellsOf 9 = 1 by kernel_rfl, DataW.trod, Try.underlying22, Try.underlying3, Try.underlying9, w2, w3, w4, w5, w6, w7, w8, w9])⟩ : DataW.Trod _ _ _ _ _ _ 32 (.agg #[.int .i64 a2, .int .i64 a3, .int .u32 a4, .int .u32 a5, .int .i64 a6, .int .i64 a7, .int .i64 a8, .string a9]) _ _) trodAll_mk0))), rfl, hg.frame _, fun h => by cases h⟩

theorem over : Rows.fnExactPutSegRow.holds Try.pinned (OpenSpec.ofChange Rows.fnExactPutSegSpec) :=
  OpenClaim.holds_of_wide 6 Try.f6 rfl rfl rfl rfl rfl rfl rfl ⟨rfl, rfl, rfl, rfl, rfl⟩ rfl rfl rfl rfl rfl (by kernel_rfl) Try.func6 (by kernel_rfl)
    (of_decide_eq_true (by kernel_rfl)) (by unfold Func.isWrapper; first | (rw [if_pos (by decide +kernel)]; kernel_rfl) | (rw [if_neg (by decide +kernel)]; exact ⟨rfl, rfl⟩))
    (fun os started H enc _ => lifted os started H enc)

/-- ████ THE STATEMENT ████ -/
theorem proved : Rows.FnExactPutSegSaid :=
  over
#print axioms proved
end Go.Proofs.Ytneicghhggidnaa.fnExactPutSeg

namespace Go.Proofs.Ytneicghhggidnaa
theorem fnExactPutSeg_holds : Rows.FnExactPutSegSaid := fnExactPutSeg.proved
#print axioms fnExactPutSeg_holds
end Go.Proofs.Ytneicghhggidnaa
