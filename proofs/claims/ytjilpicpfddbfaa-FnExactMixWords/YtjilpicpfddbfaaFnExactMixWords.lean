/-
  Proved: at every word and every list of words impl.MixWords answers as spec.MixWords and writes into no argument (the law FnExactMixWords returns true, and its arguments read as before); no condition (of more than 1048576 words the law asks nothing).
-/
import Derived.Test.YtjilpicpfddbfaaRows
import Derived.Test.YtjilpicpfddbfaaOp15
import Derived.Test.YtjilpicpfddbfaaMix15
import Derived.WalkKit
import Derived.ProofKit
import Derived.OpenShut
import Derived.ShutString
import Derived.ChangeOld
import Derived.Below
import Derived.Carry
namespace Go.Proofs.Ytjilpicpfddbfaa.fnExactMixWords
open Go.ChangeShapes Go.WideShapes Go.ChangeAt Go.RowKit
open Go.ChangeMaps (open_string shut_string)
set_option linter.unusedVariables false

theorem own : ownKnob Try.prog.godebug = none := by kernel_rfl
theorem laidOut : laidOutB Try.prog = true := by kernel_rfl

set_option maxHeartbeats 4000000 in
theorem walk (b0 : Int) (a1 : Option Addr) (n1 c1 : Nat) (t1 : List Int) (w : World) (x0 : (Lit.int .u32 b0).wf = true) (R1 : Rd shU w a1 n1 t1) :
    Calls Try.prog 3 #[.int .u32 b0, .slice a1 n1 c1] w fun e w' => e = .returned (.bool true) ∧ Below w.heap.size w w' := by
  have G := Since.refl w
  have hmost := R1.most
  unfold maxLen at hmost
  go_enter Try.func3, Try.ntmps3
  by_cases hn : n1 ≤ 1048576
  case neg =>
    go_wp2_with (fail)
    go_ret
    exact ⟨rfl, G⟩
  have him := fun g cap wx => implMix b0 g n1 cap t1 hn wx
  have hsm := fun g cap wx => specMix b0 g n1 cap t1 hn wx
  generalize mixOf b0 t1 = M at him hsm
  go_wp2_with (fail)
  refine (toUints a1 n1 c1 t1 hn _ (R1.since G)).mono ?_
  rintro _ w1 ⟨g1, rfl, T1, k1⟩
  replace G := G.trans k1
  go_wp2_with (fail)
  refine (hsm _ _ _ T1.reads).mono ?_
  rintro _ w2 ⟨rfl, k2⟩
  replace G := G.trans k2
  clear T1
  go_wp2_with (fail)
  refine (toUints a1 n1 c1 t1 hn _ (R1.since G)).mono ?_
  rintro _ w3 ⟨g3, rfl, T3, k3⟩
  replace G := G.trans k3
  go_wp2_with (fail)
  refine (him _ _ _ T3.reads).mono ?_
  rintro _ w4 ⟨rfl, k4⟩
  replace G := G.trans k4
  replace T3 := T3.since k4
  go_wp2_with (fail)
  refine (toUints a1 n1 c1 t1 hn _ (R1.since G)).mono ?_
  rintro _ w5 ⟨g5, rfl, T5, k5⟩
  replace G := G.trans k5
  replace T3 := T3.since k5
  go_wp2_with (fail)
  refine (eqUints _ _ n1 n1 n1 t1 hn _ T3.reads T5.reads).mono ?_
  rintro _ w6 ⟨rfl, k6⟩
  replace G := G.trans k6
  go_wp2_with (fail)
  go_ret
  exact ⟨rfl, G⟩

set_option maxRecDepth 100000 in
theorem lifted (os : Os) (started : os.Started) (H : Type) (enc : TypeId × Value → H) :
    ReturnsInHanded {} Try.checked os 3 .any (Rows.fnExactMixWordsSpec.pre6 enc Try.prog Try.f3 Rows.fnExactMixWordsRow.domain false) (Rows.fnExactMixWordsSpec.post enc Try.prog Try.f3 false true false false) := by
  refine returnsInHanded_of_change (C := Try.checked) own started (by kernel_rfl) Try.func3
    (ChangeSpec.witness6 (enc := enc) (C := Try.checked) false ⟨#[], #[.int .u32 0, .slice none 0 0], []⟩ 8 (by kernel_rfl) (by kernel_rfl) (by kernel_rfl) (by kernel_rfl)) ?_
  intro W base args ds gs before hval0 hW hcnd _
  have hval : ∀ (j : Nat) t v, Try.f3.params[j]? = some t → args[j]? = some v → Value.okWide Try.prog W .any base t v := hval0
  have hW' := hW
  obtain ⟨p, q, hA0, hV, rfl, hfz, hnd⟩ := hW
  have hA : DataW.TrodAll enc Try.prog W 0 (fun _ => true) true Try.f3.params.toList args.toList ds p := hA0
  rw [Try.params3] at hA hval
  obtain ⟨v0, vs0, d0, ds0, p0, q0, hargs, rfl, rfl, h0, r0⟩ := trodAll_cons hA
  obtain ⟨v1, vs1, d1, ds1, p1, q1, rfl, rfl, rfl, h1, r1⟩ := trodAll_cons r0
  obtain ⟨rfl, rfl, rfl⟩ := trodAll_nil r1
  obtain rfl : args = #[v0, v1] := by cases args; simp_all
  obtain ⟨rfl, rfl⟩ := trodVars_none hV
  have e0 := h0
  have lt0 : ∀ x ∈ p0, x.block < W.heap.size := by obtain ⟨m, hm⟩ := e0; exact DataW.trod_lt m _ _ _ hm
  have e1 := h1
  have lt1 : ∀ x ∈ p1, x.block < W.heap.size := by obtain ⟨m, hm⟩ := e1; exact DataW.trod_lt m _ _ _ hm
  obtain ⟨b0, rfl, _, _, x0⟩ := open_int Try.underlying22 (hval 0 22 v0 rfl rfl) h0
  obtain ⟨a1, n1, c1, t1, rfl, R1⟩ := open_uints (hval 1 23 v1 rfl rfl) h1
  clear hA0 hval0
  refine (walk b0 a1 n1 c1 t1 W x0 R1).mono fun e W' ⟨he, bel⟩ => ?_
  subst he
  exact ⟨_, rfl, _, _, _, [], _, [], hW', trodAll_mk1 (shut_bool Try.underlying4 _), (trodAll_cons_mk (Below.trod laidOut (by kernel_rfl) (of_decide_eq_true (by kernel_rfl)) e0 bel lt0) (trodAll_cons_mk (Below.trod laidOut (by kernel_rfl) (of_decide_eq_true (by kernel_rfl)) e1 bel lt1) trodAll_mk0)), rfl, bel.frame _, fun h => by cases h⟩

theorem over : Rows.fnExactMixWordsRow.holds Try.pinned (OpenSpec.ofChange Rows.fnExactMixWordsSpec) :=
  OpenClaim.holds_of_wide 3 Try.f3 rfl rfl rfl rfl rfl rfl rfl ⟨rfl, rfl, rfl, rfl, rfl⟩ rfl rfl rfl rfl rfl (by kernel_rfl) Try.func3 (by kernel_rfl)
    (of_decide_eq_true (by kernel_rfl)) (by unfold Func.isWrapper; first | (rw [if_pos (by decide +kernel)]; kernel_rfl) | (rw [if_neg (by decide +kernel)]; exact ⟨rfl, rfl⟩))
    (fun os started H enc _ => lifted os started H enc)

theorem proved : Rows.FnExactMixWordsSaid := over
end Go.Proofs.Ytjilpicpfddbfaa.fnExactMixWords

namespace Go.Proofs.Ytjilpicpfddbfaa
theorem fnExactMixWords_holds : Rows.FnExactMixWordsSaid := fnExactMixWords.proved
#print axioms fnExactMixWords_holds
end Go.Proofs.Ytjilpicpfddbfaa
