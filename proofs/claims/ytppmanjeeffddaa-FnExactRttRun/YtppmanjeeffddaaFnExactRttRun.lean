/-
  Proved: at every list of numbers impl.RttRun answers as spec.RttRun, writes into no argument, and its answer owns its memory (the law FnExactRttRun returns true, and its argument reads as before); no condition (of more than 1048576 numbers the law asks nothing).
-/
import Derived.Test.YtppmanjeeffddaaRows
import Derived.Test.YtppmanjeeffddaaOpenRtt
import Derived.Test.YtppmanjeeffddaaRttRun
import Derived.WalkKit
import Derived.ProofKit
import Derived.OpenShut
import Derived.ShutString
import Derived.ChangeOld
import Derived.Below
import Derived.Carry
namespace Go.Proofs.Ytppmanjeeffddaa.fnExactRttRun
open Go.ChangeShapes Go.WideShapes Go.ChangeAt Go.RowKit
open Go.ChangeMaps (open_string shut_string)
set_option linter.unusedVariables false

theorem own : ownKnob Try.prog.godebug = none := by kernel_rfl
theorem laidOut : laidOutB Try.prog = true := by kernel_rfl

/-- What RttRun answers to n numbers. -/
def RunsTo (n : Nat) (ns : List Int) (m : Nat) (rs : List Int) : Prop := (n ≤ 1000 ∧ m = n ∧ rs = outR ns) ∨ (1000 < n ∧ m = 0 ∧ rs = [])

theorem runsTo (n : Nat) (ns : List Int) : ∃ (m : Nat) (rs : List Int), RunsTo n ns m rs := by
  by_cases h : n ≤ 1000
  · exact ⟨_, _, .inl ⟨h, rfl, rfl⟩⟩
  · exact ⟨_, _, .inr ⟨by omega, rfl, rfl⟩⟩

theorem RunsTo.le {n : Nat} {ns : List Int} {m : Nat} {rs : List Int} (h : RunsTo n ns m rs) : m ≤ 1000 := by
  rcases h with ⟨h, rfl, _⟩ | ⟨_, rfl, _⟩ <;> omega

theorem implRunR (a : Option Addr) (n cap : Nat) (ns : List Int) (m : Nat) (rs : List Int) (h : Hid (RunsTo n ns m rs)) (hn : n ≤ 1048576) (w : World) (R : Rd shI w a n ns) :
    Calls Try.prog 11 #[.slice a n cap] w fun e w' => ∃ g c, e = .returned (.slice (some ⟨g, 0, none⟩) m c) ∧ Held shI w' w.heap.size g m c rs ∧ Since w w' := by
  rcases h.out with ⟨h1, rfl, rfl⟩ | ⟨h1, rfl, rfl⟩
  · exact implRun a m cap ns h1 w R
  · exact implRunOut a n cap h1 (by omega) w

theorem specRunR (a : Option Addr) (n cap : Nat) (ns : List Int) (m : Nat) (rs : List Int) (h : Hid (RunsTo n ns m rs)) (hn : n ≤ 1048576) (w : World) (R : Rd shI w a n ns) :
    Calls Try.prog 12 #[.slice a n cap] w fun e w' => ∃ g c, e = .returned (.slice (some ⟨g, 0, none⟩) m c) ∧ Held shI w' w.heap.size g m c rs ∧ Since w w' := by
  rcases h.out with ⟨h1, rfl, rfl⟩ | ⟨h1, rfl, rfl⟩
  · exact specRun a m cap ns h1 w R
  · exact specRunOut a n cap h1 (by omega) w

set_option maxHeartbeats 4000000 in
theorem walk (a0 : Option Addr) (n0 c0 : Nat) (t0 : List Int) (w : World) (R0 : Rd shI w a0 n0 t0) (z0 : ∀ i, i < n0 → (Lit.int .i64 (iAt t0 i)).wf = true) :
    Calls Try.prog 8 #[.slice a0 n0 c0] w fun e w' => e = .returned (.bool true) ∧ Below w.heap.size w w' := by
  have G := Since.refl w
  have hmost := R0.most
  unfold maxLen at hmost
  clear z0
  go_enter Try.func8, Try.ntmps8
  by_cases hn : n0 ≤ 1048576
  case neg =>
    go_wp2_with (fail)
    go_ret
    exact ⟨rfl, G⟩
  obtain ⟨m, rs, hm⟩ : ∃ (m : Nat) (rs : List Int), RunsTo n0 t0 m rs := runsTo n0 t0
  have hm1 := hm.le
  replace hm : Hid _ := hm
  go_wp2_with (fail)
  refine (toInts a0 n0 c0 t0 hn _ (R0.since G)).mono ?_
  rintro _ w1 ⟨g1, rfl, T1, k1⟩
  have zk1 := k1.le
  replace G := G.trans k1
  have loT1 := T1.low'
  have hiT1 := T1.lt
  go_wp2_with (fail)
  refine (specRunR _ n0 n0 t0 m rs hm hn _ T1.reads).mono ?_
  rintro _ w2 ⟨g2, c2, rfl, T2, k2⟩
  have zk2 := k2.le
  replace G := G.trans k2
  replace T1 := T1.since k2
  have loT2 := T2.low'
  have hiT2 := T2.lt
  go_wp2_with (fail)
  refine (toInts a0 n0 c0 t0 hn _ (R0.since G)).mono ?_
  rintro _ w3 ⟨g3, rfl, T3, k3⟩
  have zk3 := k3.le
  replace G := G.trans k3
  replace T1 := T1.since k3
  replace T2 := T2.since k3
  have loT3 := T3.low'
  have hiT3 := T3.lt
  go_wp2_with (fail)
  refine (implRunR _ n0 n0 t0 m rs hm hn _ T3.reads).mono ?_
  rintro _ w4 ⟨g4, c4, rfl, T4, k4⟩
  have zk4 := k4.le
  replace G := G.trans k4
  replace T1 := T1.since k4
  replace T2 := T2.since k4
  replace T3 := T3.since k4
  have loT4 := T4.low'
  have hiT4 := T4.lt
  go_wp2_with (fail)
  refine (eqInts _ _ m c4 c2 rs (by omega) _ T4.reads T2.reads).mono ?_
  rintro _ w5 ⟨rfl, k5⟩
  have zk5 := k5.le
  replace G := G.trans k5
  replace T1 := T1.since k5
  replace T2 := T2.since k5
  replace T3 := T3.since k5
  replace T4 := T4.since k5
  go_wp2_with (fail)
  refine (toInts a0 n0 c0 t0 hn _ (R0.since G)).mono ?_
  rintro _ w6 ⟨g6, rfl, T6, k6⟩
  have zk6 := k6.le
  replace G := G.trans k6
  replace T1 := T1.since k6
  replace T2 := T2.since k6
  replace T3 := T3.since k6
  replace T4 := T4.since k6
  have loT6 := T6.low'
  have hiT6 := T6.lt
  go_wp2_with (fail)
  refine (eqInts _ _ n0 n0 n0 t0 hn _ T3.reads T6.reads).mono ?_
  rintro _ w7 ⟨rfl, k7⟩
  have zk7 := k7.le
  replace G := G.trans k7
  replace T1 := T1.since k7
  replace T2 := T2.since k7
  replace T3 := T3.since k7
  replace T4 := T4.since k7
  replace T6 := T6.since k7
  go_wp2_with (fail)
  refine (markIntsH _ g3 n0 n0 t0 1 (by omega) (by omega) _ T3).mono ?_
  rintro _ w8 ⟨rfl, t8, ms, hms, U8⟩
  replace T3 := U8
  clear U8
  replace hms : Hid _ := hms
  replace G := since_touch G t8 (by have := T3.low'; have := G.le; omega)
  replace T1 := T1.touch t8 (by omega)
  replace T2 := T2.touch t8 (by omega)
  replace T4 := T4.touch t8 (by omega)
  replace T6 := T6.touch t8 (by omega)
  have hp8 : ¬ (1 : Int) + (n0 : Int) < 0 := by omega
  go_wp2_with (fail)
  refine (eqInts _ _ m c4 c2 rs (by omega) _ T4.reads T2.reads).mono ?_
  rintro _ w9 ⟨rfl, k9⟩
  have zk9 := k9.le
  replace G := G.trans k9
  replace T1 := T1.since k9
  replace T2 := T2.since k9
  replace T3 := T3.since k9
  replace T4 := T4.since k9
  replace T6 := T6.since k9
  go_wp2_with (fail)
  refine (markIntsH _ g4 m c4 rs 1 (by omega) (by omega) _ T4).mono ?_
  rintro _ w10 ⟨rfl, t10, ls, hls, U10⟩
  replace T4 := U10
  clear U10
  replace hls : Hid _ := hls
  replace G := since_touch G t10 (by have := T4.low'; have := G.le; omega)
  replace T1 := T1.touch t10 (by omega)
  replace T2 := T2.touch t10 (by omega)
  replace T3 := T3.touch t10 (by omega)
  replace T6 := T6.touch t10 (by omega)
  have hp10 : ¬ (1 : Int) + (m : Int) < 0 := by omega
  go_wp2_with (fail)
  refine (heldInts _ m c4 ls 1 (by omega) (by omega) _ T4.reads hls.out).mono ?_
  rintro _ w11 ⟨rfl, k11⟩
  have zk11 := k11.le
  replace G := G.trans k11
  replace T1 := T1.since k11
  replace T2 := T2.since k11
  replace T3 := T3.since k11
  replace T4 := T4.since k11
  replace T6 := T6.since k11
  go_wp2_with (fail)
  refine (toInts a0 n0 c0 t0 hn _ (R0.since G)).mono ?_
  rintro _ w12 ⟨g12, rfl, T12, k12⟩
  have zk12 := k12.le
  replace G := G.trans k12
  replace T1 := T1.since k12
  replace T2 := T2.since k12
  replace T3 := T3.since k12
  replace T4 := T4.since k12
  replace T6 := T6.since k12
  have loT12 := T12.low'
  have hiT12 := T12.lt
  go_wp2_with (fail)
  refine (implRunR _ n0 n0 t0 m rs hm hn _ T12.reads).mono ?_
  rintro _ w13 ⟨g13, c13, rfl, T13, k13⟩
  have zk13 := k13.le
  replace G := G.trans k13
  replace T1 := T1.since k13
  replace T2 := T2.since k13
  replace T3 := T3.since k13
  replace T4 := T4.since k13
  replace T6 := T6.since k13
  replace T12 := T12.since k13
  have loT13 := T13.low'
  have hiT13 := T13.lt
  go_wp2_with (fail)
  refine (eqInts _ _ m c13 c2 rs (by omega) _ T13.reads T2.reads).mono ?_
  rintro _ w14 ⟨rfl, k14⟩
  have zk14 := k14.le
  replace G := G.trans k14
  replace T1 := T1.since k14
  replace T2 := T2.since k14
  replace T3 := T3.since k14
  replace T4 := T4.since k14
  replace T6 := T6.since k14
  replace T12 := T12.since k14
  replace T13 := T13.since k14
  go_wp2_with (fail)
  refine (heldInts _ m c4 ls 1 (by omega) (by omega) _ T4.reads hls.out).mono ?_
  rintro _ w15 ⟨rfl, k15⟩
  have zk15 := k15.le
  replace G := G.trans k15
  replace T1 := T1.since k15
  replace T2 := T2.since k15
  replace T3 := T3.since k15
  replace T4 := T4.since k15
  replace T6 := T6.since k15
  replace T12 := T12.since k15
  replace T13 := T13.since k15
  go_wp2_with (fail)
  go_ret
  exact ⟨rfl, G⟩

set_option maxRecDepth 100000 in
theorem lifted (os : Os) (started : os.Started) (H : Type) (enc : TypeId × Value → H) :
    ReturnsInHanded {} Try.checked os 8 .any (Rows.fnExactRttRunSpec.pre6 enc Try.prog Try.f8 Rows.fnExactRttRunRow.domain false) (Rows.fnExactRttRunSpec.post enc Try.prog Try.f8 false true false false) := by
  refine returnsInHanded_of_change (C := Try.checked) own started (by kernel_rfl) Try.func8
    (ChangeSpec.witness6 (enc := enc) (C := Try.checked) false ⟨#[], #[.slice none 0 0], []⟩ 8 (by kernel_rfl) (by kernel_rfl) (by kernel_rfl) (by kernel_rfl)) ?_
  intro W base args ds gs before hval0 hW hcnd _
  have hval : ∀ (j : Nat) t v, Try.f8.params[j]? = some t → args[j]? = some v → Value.okWide Try.prog W .any base t v := hval0
  have hW' := hW
  obtain ⟨p, q, hA0, hV, rfl, hfz, hnd⟩ := hW
  have hA : DataW.TrodAll enc Try.prog W 0 (fun _ => true) true Try.f8.params.toList args.toList ds p := hA0
  rw [Try.params8] at hA hval
  obtain ⟨v0, vs0, d0, ds0, p0, q0, hargs, rfl, rfl, h0, r0⟩ := trodAll_cons hA
  obtain ⟨rfl, rfl, rfl⟩ := trodAll_nil r0
  obtain rfl : args = #[v0] := by cases args; simp_all
  obtain ⟨rfl, rfl⟩ := trodVars_none hV
  have e0 := h0
  have lt0 : ∀ x ∈ p0, x.block < W.heap.size := by obtain ⟨m, hm⟩ := e0; exact DataW.trod_lt m _ _ _ hm
  obtain ⟨a0, n0, c0, t0, rfl, R0, z0⟩ := open_ints (hval 0 24 v0 rfl rfl) h0
  clear hA0 hval0
  refine (walk a0 n0 c0 t0 W R0 z0).mono fun e W' ⟨he, bel⟩ => ?_
  subst he
  exact ⟨_, rfl, _, _, _, [], _, [], hW', trodAll_mk1 (shut_bool Try.underlying4 _), (trodAll_cons_mk (Below.trod laidOut (by kernel_rfl) (of_decide_eq_true (by kernel_rfl)) e0 bel lt0) trodAll_mk0), rfl, bel.frame _, fun h => by cases h⟩

theorem over : Rows.fnExactRttRunRow.holds Try.pinned (OpenSpec.ofChange Rows.fnExactRttRunSpec) :=
  OpenClaim.holds_of_wide 8 Try.f8 rfl rfl rfl rfl rfl rfl rfl ⟨rfl, rfl, rfl, rfl, rfl⟩ rfl rfl rfl rfl rfl (by kernel_rfl) Try.func8 (by kernel_rfl)
    (of_decide_eq_true (by kernel_rfl)) (by unfold Func.isWrapper; first | (rw [if_pos (by decide +kernel)]; kernel_rfl) | (rw [if_neg (by decide +kernel)]; exact ⟨rfl, rfl⟩))
    (fun os started H enc _ => lifted os started H enc)

theorem proved : Rows.FnExactRttRunSaid := over
end Go.Proofs.Ytppmanjeeffddaa.fnExactRttRun

namespace Go.Proofs.Ytppmanjeeffddaa
theorem fnExactRttRun_holds : Rows.FnExactRttRunSaid := fnExactRttRun.proved
#print axioms fnExactRttRun_holds
end Go.Proofs.Ytppmanjeeffddaa
