/-
  Proved: at every text impl.GetDatagram answers as spec.GetDatagram, every field of both addresses and of the segment (the law FnExactGetDatagram returns true, and its argument reads as before); no condition (of a text of more than 1048576 bytes the law asks nothing).
  The frame was written by program (the guide's proof-skeleton); the walk and what it rests on are typed.
-/
import Derived.Test.YtneicghhggidnabRows
import Derived.Test.YtneicghhggidnabDgramLaw
import Derived.WalkKit
import Derived.ProofKit
import Derived.OpenShut
import Derived.ShutString
namespace Go.Proofs.Ytneicghhggidnab.fnExactGetDatagram
open Go.ChangeShapes Go.WideShapes Go.ChangeAt Go.RowKit
open Go.ChangeMaps (open_string shut_string)
set_option linter.unusedVariables false      -- a walk need not use every 'w<i>' (that an integer argument fits its kind)

theorem own : ownKnob Try.prog.godebug = none := by kernel_rfl

/-! ### STEP 1: THE WALK: the Go text returns true. 'Grown w w'': the world has at most new blocks (Derived/RowKit3.lean). Part the cases AHEAD of 'go_enter' where a test parts the walk; take each callee by a contract of your own. -/
theorem walk (a0 : ByteArray) (w0 : a0.size ≤ maxLen) (w : World) :
    Calls Try.prog 4 #[.string a0] w fun e w' => e = .returned (.bool true) ∧ Below w.heap.size w w' := by
  by_cases hbig : (a0.size : Int) ≤ 1048576
  · obtain ⟨ok, hok⟩ := dg_dec a0
    have hs := fun wx => specGetDg a0 (by omega) ok hok wx
    have hi := fun wx => implGetDg a0 (by omega) ok hok wx
    obtain ⟨a, b, c, d, e, f, g, h, i, j, k, l, hv⟩ := getDgVal_form ok a0
    rw [hv] at hs hi
    have he := fun wx => eqSeg e f g h i j k l wx
    have hn : ∀ (x : Bool) (w : World), (Op.unary .not (.bool x)).run Try.prog w = .ok (.bool (!x)) w := fun _ _ => rfl
    clear hok hv
    go_enter Try.func4, Try.ntmps4
    go_wp2_with (first | (go_at_call 10; refine (hs _).mono ?_; rintro _ z1 ⟨rfl, G⟩; have H := held3 z1 a b c d e f g h i j k l; replace G := ((G.alloc (.cells #[.int .u32 a, .int .i64 b] 29)).alloc (.cells #[.int .u32 c, .int .i64 d] 29)).alloc (.cells #[.int .i64 e, .int .i64 f, .int .u32 g, .int .u32 h, .int .i64 i, .int .i64 j, .int .i64 k, .string l] 31)) | (go_at_call 11; refine (hi _).mono ?_; rintro _ z2 ⟨rfl, g2⟩; replace H := (H.since g2).since ((((Since.refl _).alloc (.cells #[.int .u32 a, .int .i64 b] 29)).alloc (.cells #[.int .u32 c, .int .i64 d] 29)).alloc (.cells #[.int .i64 e, .int .i64 f, .int .u32 g, .int .u32 h, .int .i64 i, .int .i64 j, .int .i64 k, .string l] 31)); have I := held3 z2 a b c d e f g h i j k l; replace G := (((G.trans g2).alloc (.cells #[.int .u32 a, .int .i64 b] 29)).alloc (.cells #[.int .u32 c, .int .i64 d] 29)).alloc (.cells #[.int .i64 e, .int .i64 f, .int .u32 g, .int .u32 h, .int .i64 i, .int .i64 j, .int .i64 k, .string l] 31); have H2 := H; obtain ⟨⟨r0, r1, r2, r3⟩, ⟨r4, r5, r6, r7⟩, r8, r9, ra, rb, rc, rd, re, rf, rg, rh⟩ := H2) | (go_at_call 12; refine (eqAddr _ _ _).mono ?_; rintro _ z3 ⟨rfl, g3⟩; replace H := H.since g3; replace I := I.since g3; replace G := G.trans g3; have H2 := H; have I2 := I; obtain ⟨⟨u0, u1, u2, u3⟩, ⟨u4, u5, u6, u7⟩, u8, u9, ua, ub, uc, ud, ue, uf, ug, uh⟩ := H2; obtain ⟨⟨v0, v1, v2, v3⟩, ⟨v4, v5, v6, v7⟩, v8, v9, va, vb, vc, vd, ve, vf, vg, vh⟩ := I2) | (go_at_call 13; refine (he _).mono ?_; rintro _ z5 ⟨rfl, g5⟩; replace G := G.trans g5))
    go_ret
    exact ⟨rfl, G⟩
  · have hb : (1048576 : Int) < (a0.size : Int) := by omega
    clear hbig
    go_enter Try.func4, Try.ntmps4
    go_wp2
    go_ret
    exact ⟨rfl, Since.refl _⟩

/-! ### THE ROW's STEP: WRITTEN OUT: LEAVE IT -/
set_option maxRecDepth 100000 in
theorem lifted (os : Os) (started : os.Started) (H : Type) (enc : TypeId × Value → H) :
    ReturnsInHanded {} Try.checked os 4 .any (Rows.fnExactGetDatagramSpec.pre6 enc Try.prog Try.f4 Rows.fnExactGetDatagramRow.domain false) (Rows.fnExactGetDatagramSpec.post enc Try.prog Try.f4 false true false false) := by
  refine returnsInHanded_of_change (C := Try.checked) own started (by kernel_rfl) Try.func4
    (ChangeSpec.witness6 (enc := enc) (C := Try.checked) false ⟨#[], #[.string ByteArray.empty], []⟩ 8 (by kernel_rfl) (by kernel_rfl) (by kernel_rfl) (by kernel_rfl)) ?_
  intro W base args ds gs before hval0 hW hcnd _
  have hval : ∀ (j : Nat) t v, Try.f4.params[j]? = some t → args[j]? = some v → Value.okWide Try.prog W .any base t v := hval0
  have hW' := hW
  obtain ⟨p, q, hA0, hV, rfl, hfz, hnd⟩ := hW
  have hA : DataW.TrodAll enc Try.prog W 0 (fun _ => true) true Try.f4.params.toList args.toList ds p := hA0
  rw [Try.params4] at hA hval
  obtain ⟨v0, vs0, d0, ds0, p0, q0, hargs, rfl, rfl, h0, r0⟩ := trodAll_cons hA
  obtain ⟨rfl, rfl, rfl⟩ := trodAll_nil r0
  obtain rfl : args = #[v0] := by cases args; simp_all
  obtain ⟨rfl, rfl⟩ := trodVars_none hV
  obtain ⟨a0, rfl, rfl, rfl, w0⟩ := open_string Try.underlying9 (hval 0 9 v0 rfl rfl) h0
  clear hA0 hval0
  simp only [List.append_nil] at hW'
  refine (walk a0 w0 W).mono fun e W' ⟨he, hg⟩ => ?_
  subst he
  exact ⟨_, rfl, _, _, _, [], [], [], hW', (trodAll_cons_mk (shut_bool Try.underlying4 _) trodAll_mk0), (trodAll_cons_mk (shut_string Try.underlying9 w0) trodAll_mk0), rfl, hg.frame _, fun h => by cases h⟩

theorem over : Rows.fnExactGetDatagramRow.holds Try.pinned (OpenSpec.ofChange Rows.fnExactGetDatagramSpec) :=
  OpenClaim.holds_of_wide 4 Try.f4 rfl rfl rfl rfl rfl rfl rfl ⟨rfl, rfl, rfl, rfl, rfl⟩ rfl rfl rfl rfl rfl (by kernel_rfl) Try.func4 (by kernel_rfl)
    (of_decide_eq_true (by kernel_rfl)) (by unfold Func.isWrapper; first | (rw [if_pos (by decide +kernel)]; kernel_rfl) | (rw [if_neg (by decide +kernel)]; exact ⟨rfl, rfl⟩))
    (fun os started H enc _ => lifted os started H enc)

/-- ████ THE STATEMENT ████ -/
theorem proved : Rows.FnExactGetDatagramSaid :=
  over
#print axioms proved
end Go.Proofs.Ytneicghhggidnab.fnExactGetDatagram

namespace Go.Proofs.Ytneicghhggidnab
theorem fnExactGetDatagram_holds : Rows.FnExactGetDatagramSaid := fnExactGetDatagram.proved
#print axioms fnExactGetDatagram_holds
end Go.Proofs.Ytneicghhggidnab
