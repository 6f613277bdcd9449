/-
  Proved: at every two hosts and every text impl.GetSeg answers as spec.GetSeg, every field (the law FnExactGetSeg returns true, and its arguments read as before); no condition (of a text of more than 1048576 bytes the law asks nothing).
  The frame was written by program (the guide's proof-skeleton); the walk and what it rests on are typed.
-/
import Derived.Test.YtneicghhggidnaaRows
import Derived.Test.YtneicghhggidnaaSegLaw
import Derived.WalkKit
import Derived.ProofKit
import Derived.OpenShut
import Derived.ShutString
namespace Go.Proofs.Ytneicghhggidnaa.fnExactGetSeg
open Go.ChangeShapes Go.WideShapes Go.ChangeAt Go.RowKit
open Go.ChangeMaps (open_string shut_string)
set_option linter.unusedVariables false      -- a walk need not use every 'w<i>' (that an integer argument fits its kind)

theorem own : ownKnob Try.prog.godebug = none := by kernel_rfl

/-! ### STEP 1: THE WALK: the Go text returns true. 'Grown w w'': the world has at most new blocks (Derived/RowKit3.lean). Part the cases AHEAD of 'go_enter' where a test parts the walk; take each callee by a contract of your own. -/
theorem walk (a0 : Int) (a1 : Int) (a2 : ByteArray) (w0 : (Lit.int .u32 a0).wf = true) (w1 : (Lit.int .u32 a1).wf = true) (w2 : a2.size ≤ maxLen) (w : World) :
    Calls Try.prog 7 #[.int .u32 a0, .int .u32 a1, .string a2] w fun e w' => e = .returned (.bool true) ∧ Below w.heap.size w w' := by
  by_cases hbig : (a2.size : Int) ≤ 1048576
  · obtain ⟨ok, hok⟩ := seg_dec a0 a1 a2
    have hs := fun wx => specGetSeg a0 a1 a2 (isWord_wf w0) (isWord_wf w1) (by omega) ok hok wx
    have hi := fun wx => implGetSeg a0 a1 a2 (isWord_wf w0) (isWord_wf w1) (by omega) ok hok wx
    obtain ⟨a, b, c, d, e, f, g, h, hv⟩ := getSegVal_form ok a2
    rw [hv] at hs hi
    have he := fun wx => eqSeg a b c d e f g h wx
    have hn : ∀ (x : Bool) (w : World), (Op.unary .not (.bool x)).run Try.prog w = .ok (.bool (!x)) w := fun _ _ => rfl
    clear hok hv
    go_enter Try.func7, Try.ntmps7
    go_wp2_with (first | (go_at_call 20; refine (hs _).mono ?_; rintro _ z1 ⟨rfl, g1⟩; have K := Rec8.new z1 (.int .i64 a) (.int .i64 b) (.int .u32 c) (.int .u32 d) (.int .i64 e) (.int .i64 f) (.int .i64 g) (.string h) 35; replace g1 := g1.alloc (.cells #[.int .i64 a, .int .i64 b, .int .u32 c, .int .u32 d, .int .i64 e, .int .i64 f, .int .i64 g, .string h] 35)) | (go_at_call 21; refine (hi _).mono ?_; rintro _ z2 ⟨rfl, g2⟩; replace K := (K.since g2).since ((Since.refl _).alloc (.cells #[.int .i64 a, .int .i64 b, .int .u32 c, .int .u32 d, .int .i64 e, .int .i64 f, .int .i64 g, .string h] 35)); obtain ⟨k0, k1, k2, k3, k4, k5, k6, k7, k8, k9⟩ := K; replace g1 := (g1.trans g2).alloc (.cells #[.int .i64 a, .int .i64 b, .int .u32 c, .int .u32 d, .int .i64 e, .int .i64 f, .int .i64 g, .string h] 35)) | (go_at_call 22; refine (he _).mono ?_; rintro _ z3 ⟨rfl, g3⟩))
    go_ret
    exact ⟨rfl, g1.trans g3⟩
  · have hb : (1048576 : Int) < (a2.size : Int) := by omega
    clear hbig
    go_enter Try.func7, Try.ntmps7
    go_wp2
    go_ret
    exact ⟨rfl, Since.refl _⟩

/-! ### THE ROW's STEP: WRITTEN OUT: LEAVE IT -/
set_option maxRecDepth 100000 in
theorem lifted (os : Os) (started : os.Started) (H : Type) (enc : TypeId × Value → H) :
    ReturnsInHanded {} Try.checked os 7 .any (Rows.fnExactGetSegSpec.pre6 enc Try.prog Try.f7 Rows.fnExactGetSegRow.domain false) (Rows.fnExactGetSegSpec.post enc Try.prog Try.f7 false true false false) := by
  refine returnsInHanded_of_change (C := Try.checked) own started (by kernel_rfl) Try.func7
    (ChangeSpec.witness6 (enc := enc) (C := Try.checked) false ⟨#[], #[.int .u32 0, .int .u32 0, .string ByteArray.empty], []⟩ 8 (by kernel_rfl) (by kernel_rfl) (by kernel_rfl) (by kernel_rfl)) ?_
  intro W base args ds gs before hval0 hW hcnd _
  have hval : ∀ (j : Nat) t v, Try.f7.params[j]? = some t → args[j]? = some v → Value.okWide Try.prog W .any base t v := hval0
  have hW' := hW
  obtain ⟨p, q, hA0, hV, rfl, hfz, hnd⟩ := hW
  have hA : DataW.TrodAll enc Try.prog W 0 (fun _ => true) true Try.f7.params.toList args.toList ds p := hA0
  rw [Try.params7] at hA hval
  obtain ⟨v0, vs0, d0, ds0, p0, q0, hargs, rfl, rfl, h0, r0⟩ := trodAll_cons hA
  obtain ⟨v1, vs1, d1, ds1, p1, q1, rfl, rfl, rfl, h1, r1⟩ := trodAll_cons r0
  obtain ⟨v2, vs2, d2, ds2, p2, q2, rfl, rfl, rfl, h2, r2⟩ := trodAll_cons r1
  obtain ⟨rfl, rfl, rfl⟩ := trodAll_nil r2
  obtain rfl : args = #[v0, v1, v2] := by cases args; simp_all
  obtain ⟨rfl, rfl⟩ := trodVars_none hV
  obtain ⟨a0, rfl, rfl, rfl, w0⟩ := open_int Try.underlying22 (hval 0 22 v0 rfl rfl) h0
  obtain ⟨a1, rfl, rfl, rfl, w1⟩ := open_int Try.underlying22 (hval 1 22 v1 rfl rfl) h1
  obtain ⟨a2, rfl, rfl, rfl, w2⟩ := open_string Try.underlying9 (hval 2 9 v2 rfl rfl) h2
  clear hA0 hval0
  simp only [List.append_nil] at hW'
  refine (walk a0 a1 a2 w0 w1 w2 W).mono fun e W' ⟨he, hg⟩ => ?_
  subst he
  exact ⟨_, rfl, _, _, _, [], [], [], hW', (trodAll_cons_mk (shut_bool Try.underlying4 _) trodAll_mk0), (trodAll_cons_mk (shut_int Try.underlying22 w0) (trodAll_cons_mk (shut_int Try.underlying22 w1) (trodAll_cons_mk (shut_string Try.underlying9 w2) trodAll_mk0))), rfl, hg.frame _, fun h => by cases h⟩

theorem over : Rows.fnExactGetSegRow.holds Try.pinned (OpenSpec.ofChange Rows.fnExactGetSegSpec) :=
  OpenClaim.holds_of_wide 7 Try.f7 rfl rfl rfl rfl rfl rfl rfl ⟨rfl, rfl, rfl, rfl, rfl⟩ rfl rfl rfl rfl rfl (by kernel_rfl) Try.func7 (by kernel_rfl)
    (of_decide_eq_true (by kernel_rfl)) (by unfold Func.isWrapper; first | (rw [if_pos (by decide +kernel)]; kernel_rfl) | (rw [if_neg (by decide +kernel)]; exact ⟨rfl, rfl⟩))
    (fun os started H enc _ => lifted os started H enc)

/-- ████ THE STATEMENT ████ -/
theorem proved : Rows.FnExactGetSegSaid :=
  over
#print axioms proved
end Go.Proofs.Ytneicghhggidnaa.fnExactGetSeg

namespace Go.Proofs.Ytneicghhggidnaa
theorem fnExactGetSeg_holds : Rows.FnExactGetSegSaid := fnExactGetSeg.proved
#print axioms fnExactGetSeg_holds
end Go.Proofs.Ytneicghhggidnaa
