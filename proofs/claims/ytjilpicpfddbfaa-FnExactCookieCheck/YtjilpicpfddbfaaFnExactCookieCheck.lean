/-
  Proved: at every secret, two addresses, epoch and word impl.CookieCheck answers as spec.CookieCheck (the law FnExactCookieCheck returns true, and its arguments read as before); no condition.
-/
import Derived.Test.YtjilpicpfddbfaaRows
import Derived.Test.YtjilpicpfddbfaaOp15
import Derived.Test.YtjilpicpfddbfaaCc15
import Derived.WalkKit
import Derived.ProofKit
import Derived.OpenShut
import Derived.ShutString
import Derived.ChangeOld
import Derived.Below
import Derived.Carry
namespace Go.Proofs.Ytjilpicpfddbfaa.fnExactCookieCheck
open Go.ChangeShapes Go.WideShapes Go.ChangeAt Go.RowKit
open Go.ChangeMaps (open_string shut_string)
set_option linter.unusedVariables false

theorem own : ownKnob Try.prog.godebug = none := by kernel_rfl
theorem laidOut : laidOutB Try.prog = true := by kernel_rfl

set_option maxHeartbeats 4000000 in
theorem walk (b0 : Int) (h1 p1 : Int) (h2 p2 : Int) (b3 : Int) (b4 : Int) (w : World) (x0 : (Lit.int .u32 b0).wf = true) (x1 : (Lit.int .u32 h1).wf = true) (y1 : (Lit.int .i64 p1).wf = true) (x2 : (Lit.int .u32 h2).wf = true) (y2 : (Lit.int .i64 p2).wf = true) (x3 : (Lit.int .i64 b3).wf = true) (x4 : (Lit.int .u32 b4).wf = true) :
    Calls Try.prog 5 #[.int .u32 b0, addrVal h1 p1, addrVal h2 p2, .int .i64 b3, .int .u32 b4] w fun e w' => e = .returned (.bool true) ∧ Below w.heap.size w w' := by
  have ht := fun a b wx => toAddr a b wx
  have hs := fun wx => specCheck b0 h1 p1 h2 p2 b3 b4 (isWord_wf x4) wx
  have hi := fun wx => implCheck b0 h1 p1 h2 p2 b3 b4 (isWord_wf x4) wx
  generalize ckStep b0 h1 p1 h2 p2 b3 b4 = X at hs hi
  generalize ckKnown b0 h1 p1 h2 p2 b3 b4 = Y at hs hi
  unfold addrVal at *
  obtain ⟨wb, hwb⟩ : ∃ wb, (w.alloc (.cells #[.int .u32 h1, .int .i64 p1] 29)).alloc (.cells #[.int .u32 h2, .int .i64 p2] 29) = wb := ⟨_, rfl⟩
  have HB : Since w wb := by rw [← hwb]; exact ((Since.refl _).alloc _).alloc _
  have A0 := (Blk.new w #[.int .u32 h1, .int .i64 p1] 29).since ((Since.refl _).alloc (.cells #[.int .u32 h2, .int .i64 p2] 29))
  have B0 := Blk.new (w.alloc (.cells #[.int .u32 h1, .int .i64 p1] 29)) #[.int .u32 h2, .int .i64 p2] 29
  rw [World.size_alloc] at B0
  go_enter Try.func5, Try.ntmps5
  go_wp2_with (fail)
  rw [hwb] at A0 B0
  clear hwb
  have cA0 : ∀ x : Later wb, x.val.cell? ⟨w.heap.size, 0, none⟩ = some (.int .u32 h1) := fun x => (A0.since x.ok).cell 0
  have cA1 : ∀ x : Later wb, x.val.cell? ⟨w.heap.size, 1, none⟩ = some (.int .i64 p1) := fun x => (A0.since x.ok).cell 1
  have cB0 : ∀ x : Later wb, x.val.cell? ⟨w.heap.size + 1, 0, none⟩ = some (.int .u32 h2) := fun x => (B0.since x.ok).cell 0
  have cB1 : ∀ x : Later wb, x.val.cell? ⟨w.heap.size + 1, 1, none⟩ = some (.int .i64 p2) := fun x => (B0.since x.ok).cell 1
  have hta : ∀ h p (x : Later wb), Calls Try.prog 11 #[.agg #[.int .u32 h, .int .i64 p]] x.val fun e w'' => e = .returned (.agg #[.int .u32 h, .int .i64 p]) ∧ ∃ y : Later wb, w'' = y.val := fun h p x => calm_call (ht h p x.val)
  have hs' : ∀ (x : Later wb), Calls Try.prog 13 #[.int .u32 b0, .agg #[.int .u32 h1, .int .i64 p1], .agg #[.int .u32 h2, .int .i64 p2], .int .i64 b3, .int .u32 b4] x.val fun e w'' => e = .returned (.tuple #[.int .i64 X, .bool Y]) ∧ ∃ y : Later wb, w'' = y.val := fun x => calm_call (hs x.val)
  have hi' : ∀ (x : Later wb), Calls Try.prog 14 #[.int .u32 b0, .agg #[.int .u32 h1, .int .i64 p1], .agg #[.int .u32 h2, .int .i64 p2], .int .i64 b3, .int .u32 b4] x.val fun e w'' => e = .returned (.tuple #[.int .i64 X, .bool Y]) ∧ ∃ y : Later wb, w'' = y.val := fun x => calm_call (hi x.val)
  have hne : Nonempty (Later wb) := ⟨⟨wb, Since.refl _⟩⟩
  clear A0 B0 ht hs hi
  refine wp_region_calm (wb := wb) (by kernel_rfl) (by kernel_rfl) (Since.refl _) ?_
  repeat (go_big_quiet_step (first | exact hta _ _ _ | exact hs' _))
  refine wpQuiet_nil ?_
  rintro _ ⟨x1, rfl⟩
  go_wp2_with (fail)
  refine wp_region_calm (wb := wb) (by kernel_rfl) (by kernel_rfl) x1.ok ?_
  repeat (go_big_quiet_step (first | exact hta _ _ _ | exact hi' _))
  refine wpQuiet_nil ?_
  rintro _ ⟨x2, rfl⟩
  go_wp2_with (fail)
  go_ret
  exact ⟨rfl, HB.trans x2.ok⟩

set_option maxRecDepth 100000 in
theorem lifted (os : Os) (started : os.Started) (H : Type) (enc : TypeId × Value → H) :
    ReturnsInHanded {} Try.checked os 5 .any (Rows.fnExactCookieCheckSpec.pre6 enc Try.prog Try.f5 Rows.fnExactCookieCheckRow.domain false) (Rows.fnExactCookieCheckSpec.post enc Try.prog Try.f5 false true false false) := by
  refine returnsInHanded_of_change (C := Try.checked) own started (by kernel_rfl) Try.func5
    (ChangeSpec.witness6 (enc := enc) (C := Try.checked) false ⟨#[], #[.int .u32 0, .agg #[.int .u32 0, .int .i64 0], .agg #[.int .u32 0, .int .i64 0], .int .i64 0, .int .u32 0], []⟩ 8 (by kernel_rfl) (by kernel_rfl) (by kernel_rfl) (by kernel_rfl)) ?_
  intro W base args ds gs before hval0 hW hcnd _
  have hval : ∀ (j : Nat) t v, Try.f5.params[j]? = some t → args[j]? = some v → Value.okWide Try.prog W .any base t v := hval0
  have hW' := hW
  obtain ⟨p, q, hA0, hV, rfl, hfz, hnd⟩ := hW
  have hA : DataW.TrodAll enc Try.prog W 0 (fun _ => true) true Try.f5.params.toList args.toList ds p := hA0
  rw [Try.params5] at hA hval
  obtain ⟨v0, vs0, d0, ds0, p0, q0, hargs, rfl, rfl, h0, r0⟩ := trodAll_cons hA
  obtain ⟨v1, vs1, d1, ds1, p1, q1, rfl, rfl, rfl, h1, r1⟩ := trodAll_cons r0
  obtain ⟨v2, vs2, d2, ds2, p2, q2, rfl, rfl, rfl, h2, r2⟩ := trodAll_cons r1
  obtain ⟨v3, vs3, d3, ds3, p3, q3, rfl, rfl, rfl, h3, r3⟩ := trodAll_cons r2
  obtain ⟨v4, vs4, d4, ds4, p4, q4, rfl, rfl, rfl, h4, r4⟩ := trodAll_cons r3
  obtain ⟨rfl, rfl, rfl⟩ := trodAll_nil r4
  obtain rfl : args = #[v0, v1, v2, v3, v4] := by cases args; simp_all
  obtain ⟨rfl, rfl⟩ := trodVars_none hV
  have e0 := h0
  have lt0 : ∀ x ∈ p0, x.block < W.heap.size := by obtain ⟨m, hm⟩ := e0; exact DataW.trod_lt m _ _ _ hm
  have e1 := h1
  have lt1 : ∀ x ∈ p1, x.block < W.heap.size := by obtain ⟨m, hm⟩ := e1; exact DataW.trod_lt m _ _ _ hm
  have e2 := h2
  have lt2 : ∀ x ∈ p2, x.block < W.heap.size := by obtain ⟨m, hm⟩ := e2; exact DataW.trod_lt m _ _ _ hm
  have e3 := h3
  have lt3 : ∀ x ∈ p3, x.block < W.heap.size := by obtain ⟨m, hm⟩ := e3; exact DataW.trod_lt m _ _ _ hm
  have e4 := h4
  have lt4 : ∀ x ∈ p4, x.block < W.heap.size := by obtain ⟨m, hm⟩ := e4; exact DataW.trod_lt m _ _ _ hm
  obtain ⟨b0, rfl, _, _, x0⟩ := open_int Try.underlying22 (hval 0 22 v0 rfl rfl) h0
  obtain ⟨hv1, pv1, rfl, x1, y1⟩ := open_addr (hval 1 29 v1 rfl rfl) h1
  obtain ⟨hv2, pv2, rfl, x2, y2⟩ := open_addr (hval 2 29 v2 rfl rfl) h2
  obtain ⟨b3, rfl, _, _, x3⟩ := open_int Try.underlying3 (hval 3 3 v3 rfl rfl) h3
  obtain ⟨b4, rfl, _, _, x4⟩ := open_int Try.underlying22 (hval 4 22 v4 rfl rfl) h4
  clear hA0 hval0
  refine (walk b0 hv1 pv1 hv2 pv2 b3 b4 W x0 x1 y1 x2 y2 x3 x4).mono fun e W' ⟨he, bel⟩ => ?_
  subst he
  exact ⟨_, rfl, _, _, _, [], _, [], hW', trodAll_mk1 (shut_bool Try.underlying4 _), (trodAll_cons_mk (Below.trod laidOut (by kernel_rfl) (of_decide_eq_true (by kernel_rfl)) e0 bel lt0) (trodAll_cons_mk (Below.trod laidOut (by kernel_rfl) (of_decide_eq_true (by kernel_rfl)) e1 bel lt1) (trodAll_cons_mk (Below.trod laidOut (by kernel_rfl) (of_decide_eq_true (by kernel_rfl)) e2 bel lt2) (trodAll_cons_mk (Below.trod laidOut (by kernel_rfl) (of_decide_eq_true (by kernel_rfl)) e3 bel lt3) (trodAll_cons_mk (Below.trod laidOut (by kernel_rfl) (of_decide_eq_true (by kernel_rfl)) e4 bel lt4) trodAll_mk0))))), rfl, bel.frame _, fun h => by cases h⟩

theorem over : Rows.fnExactCookieCheckRow.holds Try.pinned (OpenSpec.ofChange Rows.fnExactCookieCheckSpec) :=
  OpenClaim.holds_of_wide 5 Try.f5 rfl rfl rfl rfl rfl rfl rfl ⟨rfl, rfl, rfl, rfl, rfl⟩ rfl rfl rfl rfl rfl (by kernel_rfl) Try.func5 (by kernel_rfl)
    (of_decide_eq_true (by kernel_rfl)) (by unfold Func.isWrapper; first | (rw [if_pos (by decide +kernel)]; kernel_rfl) | (rw [if_neg (by decide +kernel)]; exact ⟨rfl, rfl⟩))
    (fun os started H enc _ => lifted os started H enc)

theorem proved : Rows.FnExactCookieCheckSaid := over
end Go.Proofs.Ytjilpicpfddbfaa.fnExactCookieCheck

namespace Go.Proofs.Ytjilpicpfddbfaa
theorem fnExactCookieCheck_holds : Rows.FnExactCookieCheckSaid := fnExactCookieCheck.proved
#print axioms fnExactCookieCheck_holds
end Go.Proofs.Ytjilpicpfddbfaa
