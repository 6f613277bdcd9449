/-
  Proved: at every net and every text impl.NetSend answers as spec.NetSend, writes into no argument, and its answer owns its memory (the law FnExactNetSend returns true, and its arguments read as before); no condition (of a net of more than 1048576 texts and bytes, or a text of more, the law asks nothing).
-/
import Derived.Test.YtdampggjnmmhfaaRows
import Derived.Test.YtdampggjnmmhfaaNet
import Derived.Test.YtdampggjnmmhfaaNetSend
import Derived.Test.YtdampggjnmmhfaaOpenNet
import Derived.Test.YtdampggjnmmhfaaDrawn
import Derived.WalkKit
import Derived.ProofKit
import Derived.OpenShut
import Derived.ShutString
import Derived.ChangeOld
import Derived.Below
import Derived.Carry
namespace Go.Proofs.Ytdampggjnmmhfaa.fnExactNetSend
open Go.ChangeShapes Go.WideShapes Go.ChangeAt Go.RowKit
open Go.ChangeMaps (open_string shut_string)
set_option linter.unusedVariables false

theorem own : ownKnob Try.prog.godebug = none := by kernel_rfl
theorem laidOut : laidOutB Try.prog = true := by kernel_rfl

set_option maxHeartbeats 4000000 in
theorem walk (a0 : Option Addr) (n0 c0 : Nat) (s0 : List ByteArray) (b1 : ByteArray) (w : World) (R0 : Reads w a0 n0 s0) (z0 : ∀ i, i < n0 → (txt s0 i).size ≤ maxLen) (z1 : b1.size ≤ maxLen) :
    Calls Try.prog 4 #[.agg #[.slice a0 n0 c0], .string b1] w fun e w' => e = .returned (.bool true) ∧ Below w.heap.size w w' := by
  have G := (Since.refl w).alloc (.cells #[.slice a0 n0 c0] 24)
  have A := Rec1.new w (.slice a0 n0 c0) 24
  by_cases hbs : (1048576 : Int) < (b1.size : Int)
  · go_enter Try.func4, Try.ntmps4
    go_wp2
    go_ret
    exact ⟨rfl, G⟩
  have hsz := szNet a0 n0 c0 s0 1048576 (by omega) (by omega) (w.alloc (.cells #[.slice a0 n0 c0] 24)) (R0.since ((Since.refl _).alloc _)) z0
  go_enter Try.func4, Try.ntmps4
  go_wp2_with (go_at_call 8; refine hsz.mono ?_; rintro _ w1 ⟨r, rfl, hr, hb, g1⟩; replace hb : Hid _ := hb; have z_A := g1.le; simp only [World.size_alloc] at z_A; replace G := G.trans g1; replace A := A.since g1; have cA := A.c0)
  · go_ret
    exact ⟨rfl, G⟩
  obtain ⟨hn, hs⟩ := hb.out (by omega)
  have hs' : ∀ i, i < n0 → (txt s0 i).size ≤ 1048576 := fun i hi => by have := hs i hi; omega
  have hb1 : b1.size ≤ 1048576 := by omega
  clear hsz hb hs z0
  replace hs' : Hid _ := hs'
  refine (toNet a0 n0 c0 s0 (by omega) _ (R0.since G)).mono ?_
  rintro _ w2 ⟨g2, rfl, T2, k2⟩
  have z_k2 := k2.le
  try simp only [World.size_alloc] at z_k2
  replace G := G.trans k2
  replace A := A.since k2
  replace cA := A.c0
  go_wp2_with (fail)
  refine (specNetSend _ n0 n0 s0 b1 (by omega) (by simp) _ T2.reads).mono ?_
  rintro _ w3 ⟨gw, mw, cw, rfl, Tw, k3⟩
  have lw := Tw.len
  have z_k3 := k3.le
  try simp only [World.size_alloc] at z_k3
  replace G := G.trans k3
  replace A := A.since k3
  have lo_Tw := Tw.low
  try simp only [World.size_alloc] at lo_Tw
  have hi_Tw := Tw.lt
  have V := Rec1.new w3 (.slice (some ⟨gw, 0, none⟩) mw cw) 27
  have k_V := (Since.refl w3).alloc (.cells #[.slice (some ⟨gw, 0, none⟩) mw cw] 27)
  have z_k_V := k_V.le
  try simp only [World.size_alloc] at z_k_V
  replace G := G.trans k_V
  replace A := A.since k_V
  replace Tw := Tw.since k_V
  replace cA := A.c0
  have cV := V.c0
  go_wp2_with (fail)
  refine (toNet a0 n0 c0 s0 (by omega) _ (R0.since G)).mono ?_
  rintro _ w5 ⟨gx, rfl, Tx, k5⟩
  have z_k5 := k5.le
  try simp only [World.size_alloc] at z_k5
  replace G := G.trans k5
  replace A := A.since k5
  replace V := V.since k5
  replace Tw := Tw.since k5
  have lo_Tx := Tx.low
  try simp only [World.size_alloc] at lo_Tx
  have hi_Tx := Tx.lt
  have X := Rec1.new w5 (.slice (some ⟨gx, 0, none⟩) n0 n0) 27
  have k_X := (Since.refl w5).alloc (.cells #[.slice (some ⟨gx, 0, none⟩) n0 n0] 27)
  have z_k_X := k_X.le
  try simp only [World.size_alloc] at z_k_X
  replace G := G.trans k_X
  replace A := A.since k_X
  replace V := V.since k_X
  replace Tw := Tw.since k_X
  replace Tx := Tx.since k_X
  replace cA := A.c0
  replace cV := V.c0
  have cX := X.c0
  go_wp2_with (fail)
  refine (implNetSendOwn _ gx n0 n0 s0 b1 (by omega) hs'.out hb1 _ Tx).mono ?_
  rintro _ w7 ⟨gg, mg, cg, rfl, Tg, k7⟩
  have lg := Tg.len
  have z_k7 := k7.le
  try simp only [World.size_alloc] at z_k7
  replace G := G.trans k7
  replace A := A.since k7
  replace V := V.since k7
  replace X := X.since k7
  replace Tw := Tw.since k7
  replace Tx := Tx.since k7
  have lo_Tg := Tg.low
  try simp only [World.size_alloc] at lo_Tg
  have hi_Tg := Tg.lt
  have hmw : mw = mg := by omega
  subst hmw
  have hmw : mw ≤ 1048577 := by rw [← lg]; unfold netSend; split <;> (have := Tx.len; simp; omega)
  have Y := Rec1.new w7 (.slice (some ⟨gg, 0, none⟩) mw cg) 27
  have k_Y := (Since.refl w7).alloc (.cells #[.slice (some ⟨gg, 0, none⟩) mw cg] 27)
  have z_k_Y := k_Y.le
  try simp only [World.size_alloc] at z_k_Y
  replace G := G.trans k_Y
  replace A := A.since k_Y
  replace V := V.since k_Y
  replace X := X.since k_Y
  replace Tw := Tw.since k_Y
  replace Tx := Tx.since k_Y
  replace Tg := Tg.since k_Y
  replace cA := A.c0
  replace cV := V.c0
  replace cX := X.c0
  have cY := Y.c0
  go_wp2_with (fail)
  refine (eqNet _ _ mw mw cg cw _ _ _ Tg.reads Tw.reads).mono ?_
  rw [decide_eq_true rfl]
  rintro _ w9 ⟨rfl, k9⟩
  have z_k9 := k9.le
  try simp only [World.size_alloc] at z_k9
  replace G := G.trans k9
  replace A := A.since k9
  replace V := V.since k9
  replace X := X.since k9
  replace Y := Y.since k9
  replace Tw := Tw.since k9
  replace Tx := Tx.since k9
  replace Tg := Tg.since k9
  replace cA := A.c0
  replace cV := V.c0
  replace cX := X.c0
  replace cY := Y.c0
  go_wp2_with (fail)
  refine wp_region_each (wb := w9) (fun i x v => match i with
      | 0 => v = .agg #[.slice (some ⟨gx, 0, none⟩) n0 n0]
      | 1 => v = .agg #[.slice a0 n0 c0]
      | 2 => IsNet 0 n0 n0 s0 x v
      | 3 => v = .bool true
      | 4 => v = .bool false
      | _ => True) (fun v => { tmps := #[Value.agg #[Value.slice a0 n0 c0], Value.string b1, Value.pointer (some ⟨w.heap.size, 0, none⟩), undef, Value.bool false, Value.int IntKind.i64 r, Value.pointer (some ⟨w3.heap.size, 0, none⟩), Value.pointer (some ⟨w5.heap.size, 0, none⟩), Value.pointer (some ⟨w7.heap.size, 0, none⟩), undef, undef, undef, undef, Value.string b1, Value.int IntKind.i64 b1.size, Value.bool false, Value.agg #[Value.slice a0 n0 c0], Value.int IntKind.i64 1048576, Value.int IntKind.i64 r, Value.int IntKind.i64 r, Value.bool (decide (r < 0)), Value.agg #[Value.slice a0 n0 c0], Value.agg #[Value.slice (some ⟨g2, 0, none⟩) n0 n0], Value.string b1, Value.agg #[Value.slice (some ⟨gw, 0, none⟩) mw cw], Value.agg #[Value.slice a0 n0 c0], Value.agg #[Value.slice (some ⟨gx, 0, none⟩) n0 n0], Value.agg #[Value.slice (some ⟨gx, 0, none⟩) n0 n0], Value.string b1, Value.agg #[Value.slice (some ⟨gg, 0, none⟩) mw cg], Value.agg #[Value.slice (some ⟨gg, 0, none⟩) mw cg], Value.agg #[Value.slice (some ⟨gw, 0, none⟩) mw cw], Value.bool true, Value.bool false, v 0, v 1, v 2, v 3, v 4, undef, undef, undef, undef, undef, undef, undef, undef, undef, undef, undef, undef, undef, undef, undef, undef, undef, undef, undef, undef, undef, undef, undef, undef, undef, undef, undef, undef, undef, undef, undef, undef, undef, undef, undef, undef, undef, undef], defers := [] }) (by kernel_rfl) (by kernel_rfl) (Since.refl _) ?_ (fun vals => by kernel_rfl) ?_ ?_
  case refine_1 =>
    intro j x x' v h1 h2
    match j, h2 with
    | 2, h2 => exact h2.since h1
    | 0, h2 | 1, h2 | 3, h2 | 4, h2 => exact h2
    | n + 5, _ => trivial
  case refine_2 =>
    repeat (first | exact eachDoes_nil | refine eachDoes_cons ?_ ?_)
    all_goals intro vals x hx hv
    all_goals simp [Region.binds] at hv
    · simp [does, doesUpon, go_sem, hv, Since.refl]
    · obtain ⟨h0, g, h2, T⟩ := hv
      simp [does, doesUpon, go_sem, h0, h2]
      refine (eqNet _ _ n0 n0 n0 n0 s0 s0 _ (Tx.since hx).reads T.reads).mono ?_
      rintro _ x' ⟨rfl, h1⟩
      simp [h1]
    · simp [does, doesUpon, go_sem, hv]
      refine (toNet a0 n0 c0 s0 (by omega) _ (R0.since (G.trans hx))).mono ?_
      rintro _ x' ⟨g, rfl, T, h1⟩
      exact ⟨_, rfl, h1, g, rfl, T.mono (Nat.zero_le _)⟩
    · simp [does, doesUpon, go_sem, (A.since hx).c0, Since.refl]
    · simp [does, doesUpon, go_sem, (X.since hx).c0, Since.refl]
  intro vals w10 k10 hv
  have h4 : vals 4 = _ := hv 4 (by decide)
  clear hv
  simp only [h4]
  clear h4
  have z_k10 := k10.le
  try simp only [World.size_alloc] at z_k10
  replace G := G.trans k10
  replace A := A.since k10
  replace V := V.since k10
  replace X := X.since k10
  replace Y := Y.since k10
  replace Tw := Tw.since k10
  replace Tx := Tx.since k10
  replace Tg := Tg.since k10
  replace cA := A.c0
  replace cV := V.c0
  replace cX := X.c0
  replace cY := Y.c0
  go_wp2_with (fail)
  refine (markNet _ gx n0 n0 s0 1 (by omega) (by omega) _ Tx).mono ?_
  rintro _ w11 ⟨rfl, t11, ms, hM, Tx1⟩
  clear hM
  have z_t11 := t11.le
  try simp only [World.size_alloc] at z_t11
  replace G := G.touch t11 (by omega)
  replace A := A.touch t11 (by omega)
  replace V := V.touch t11 (by omega)
  replace X := X.touch t11 (by omega)
  replace Y := Y.touch t11 (by omega)
  replace Tw := Tw.touch t11 (by omega)
  replace Tg := Tg.touch t11 (by omega)
  clear Tx
  have Tx := Tx1
  clear Tx1
  replace cA := A.c0
  replace cV := V.c0
  replace cX := X.c0
  replace cY := Y.c0
  have hq1 : ¬ (1 : Int) + (n0 : Int) < 0 := by omega
  go_wp2_with (fail)
  refine (eqNet _ _ mw mw cg cw _ _ _ Tg.reads Tw.reads).mono ?_
  rw [decide_eq_true rfl]
  rintro _ w12 ⟨rfl, k12⟩
  have z_k12 := k12.le
  try simp only [World.size_alloc] at z_k12
  replace G := G.trans k12
  replace A := A.since k12
  replace V := V.since k12
  replace X := X.since k12
  replace Y := Y.since k12
  replace Tw := Tw.since k12
  replace Tx := Tx.since k12
  replace Tg := Tg.since k12
  replace cA := A.c0
  replace cV := V.c0
  replace cX := X.c0
  replace cY := Y.c0
  go_wp2_with (fail)
  refine (markNet _ gg mw cg _ 1 (by omega) (by omega) _ Tg).mono ?_
  rintro _ w13 ⟨rfl, t13, mg, hM, Tg1⟩
  replace hM : Hid _ := hM
  have z_t13 := t13.le
  try simp only [World.size_alloc] at z_t13
  replace G := G.touch t13 (by omega)
  replace A := A.touch t13 (by omega)
  replace V := V.touch t13 (by omega)
  replace X := X.touch t13 (by omega)
  replace Y := Y.touch t13 (by omega)
  replace Tw := Tw.touch t13 (by omega)
  replace Tx := Tx.touch t13 (by omega)
  clear Tg
  have Tg := Tg1
  clear Tg1
  replace cA := A.c0
  replace cV := V.c0
  replace cX := X.c0
  replace cY := Y.c0
  have hq2 : ¬ (1 : Int) + (mw : Int) < 0 := by omega
  go_wp2_with (fail)
  refine (heldNet _ mw cg mg 1 (by omega) (by omega) _ Tg.reads hM.out).mono ?_
  rintro _ w14 ⟨rfl, k14⟩
  have z_k14 := k14.le
  try simp only [World.size_alloc] at z_k14
  replace G := G.trans k14
  replace A := A.since k14
  replace V := V.since k14
  replace X := X.since k14
  replace Y := Y.since k14
  replace Tw := Tw.since k14
  replace Tx := Tx.since k14
  replace Tg := Tg.since k14
  replace cA := A.c0
  replace cV := V.c0
  replace cX := X.c0
  replace cY := Y.c0
  go_wp2_with (fail)
  refine (toNet a0 n0 c0 s0 (by omega) _ (R0.since G)).mono ?_
  rintro _ w15 ⟨gh, rfl, Th, k15⟩
  have z_k15 := k15.le
  try simp only [World.size_alloc] at z_k15
  replace G := G.trans k15
  replace A := A.since k15
  replace V := V.since k15
  replace X := X.since k15
  replace Y := Y.since k15
  replace Tw := Tw.since k15
  replace Tx := Tx.since k15
  replace Tg := Tg.since k15
  replace cA := A.c0
  replace cV := V.c0
  replace cY := Y.c0
  go_wp2_with (fail)
  refine (implNetSendOwn _ gh n0 n0 s0 b1 (by omega) hs'.out hb1 _ Th).mono ?_
  rintro _ w16 ⟨gi, mi, ci, rfl, Ti, k16⟩
  have li := Ti.len
  have hmi : mi = mw := by omega
  subst hmi
  have z_k16 := k16.le
  try simp only [World.size_alloc] at z_k16
  replace G := G.trans k16
  replace A := A.since k16
  replace V := V.since k16
  replace X := X.since k16
  replace Y := Y.since k16
  replace Tw := Tw.since k16
  replace Tx := Tx.since k16
  replace Tg := Tg.since k16
  replace Th := Th.since k16
  have Z := Rec1.new w16 (.slice (some ⟨gi, 0, none⟩) mi ci) 27
  have k_Z := (Since.refl w16).alloc (.cells #[.slice (some ⟨gi, 0, none⟩) mi ci] 27)
  have z_k_Z := k_Z.le
  try simp only [World.size_alloc] at z_k_Z
  replace G := G.trans k_Z
  replace A := A.since k_Z
  replace V := V.since k_Z
  replace X := X.since k_Z
  replace Y := Y.since k_Z
  replace Tw := Tw.since k_Z
  replace Tx := Tx.since k_Z
  replace Tg := Tg.since k_Z
  replace Th := Th.since k_Z
  replace Ti := Ti.since k_Z
  replace cA := A.c0
  replace cV := V.c0
  replace cY := Y.c0
  have cZ := Z.c0
  go_wp2_with (fail)
  refine (eqNet _ _ mi mi ci cw _ _ _ Ti.reads Tw.reads).mono ?_
  rw [decide_eq_true rfl]
  rintro _ w18 ⟨rfl, k18⟩
  have z_k18 := k18.le
  try simp only [World.size_alloc] at z_k18
  replace G := G.trans k18
  replace A := A.since k18
  replace V := V.since k18
  replace X := X.since k18
  replace Y := Y.since k18
  replace Z := Z.since k18
  replace Tw := Tw.since k18
  replace Tx := Tx.since k18
  replace Tg := Tg.since k18
  replace Th := Th.since k18
  replace Ti := Ti.since k18
  replace cA := A.c0
  replace cV := V.c0
  replace cY := Y.c0
  replace cZ := Z.c0
  go_wp2_with (fail)
  refine (heldNet _ mi cg mg 1 (by omega) (by omega) _ Tg.reads hM.out).mono ?_
  rintro _ w19 ⟨rfl, k19⟩
  replace G := G.trans k19
  go_wp2_with (fail)
  go_ret
  exact ⟨rfl, G⟩

set_option maxRecDepth 100000 in
theorem lifted (os : Os) (started : os.Started) (H : Type) (enc : TypeId × Value → H) :
    ReturnsInHanded {} Try.checked os 4 .any (Rows.fnExactNetSendSpec.pre6 enc Try.prog Try.f4 Rows.fnExactNetSendRow.domain false) (Rows.fnExactNetSendSpec.post enc Try.prog Try.f4 false true false false) := by
  refine returnsInHanded_of_change (C := Try.checked) own started (by kernel_rfl) Try.func4
    (ChangeSpec.witness6 (enc := enc) (C := Try.checked) false ⟨#[], #[.agg #[.slice none 0 0], .string ByteArray.empty], []⟩ 8 (by kernel_rfl) (by kernel_rfl) (by kernel_rfl) (by kernel_rfl)) ?_
  intro W base args ds gs before hval0 hW hcnd _
  have hval : ∀ (j : Nat) t v, Try.f4.params[j]? = some t → args[j]? = some v → Value.okWide Try.prog W .any base t v := hval0
  have hW' := hW
  obtain ⟨p, q, hA0, hV, rfl, hfz, hnd⟩ := hW
  have hA : DataW.TrodAll enc Try.prog W 0 (fun _ => true) true Try.f4.params.toList args.toList ds p := hA0
  rw [Try.params4] at hA hval
  obtain ⟨v0, vs0, d0, ds0, p0, q0, hargs, rfl, rfl, h0, r0⟩ := trodAll_cons hA
  obtain ⟨v1, vs1, d1, ds1, p1, q1, rfl, rfl, rfl, h1, r1⟩ := trodAll_cons r0
  obtain ⟨rfl, rfl, rfl⟩ := trodAll_nil r1
  obtain rfl : args = #[v0, v1] := by cases args; simp_all
  obtain ⟨rfl, rfl⟩ := trodVars_none hV
  have e0 := h0
  have lt0 : ∀ x ∈ p0, x.block < W.heap.size := by obtain ⟨m, hm⟩ := e0; exact DataW.trod_lt m _ _ _ hm
  have e1 := h1
  have lt1 : ∀ x ∈ p1, x.block < W.heap.size := by obtain ⟨m, hm⟩ := e1; exact DataW.trod_lt m _ _ _ hm
  obtain ⟨a0, n0, c0, s0, rfl, R0, z0⟩ := open_net (hval 0 24 v0 rfl rfl) h0
  obtain ⟨b1, rfl, _, _, z1⟩ := open_string Try.underlying9 (hval 1 9 v1 rfl rfl) h1
  clear hA0 hval0
  refine (walk a0 n0 c0 s0 b1 W R0 z0 z1).mono fun e W' ⟨he, bel⟩ => ?_
  subst he
  exact ⟨_, rfl, _, _, _, [], _, [], hW', trodAll_mk1 (shut_bool Try.underlying4 _), (trodAll_cons_mk (Below.trod laidOut (by kernel_rfl) (of_decide_eq_true (by kernel_rfl)) e0 bel lt0) (trodAll_cons_mk (Below.trod laidOut (by kernel_rfl) (of_decide_eq_true (by kernel_rfl)) e1 bel lt1) trodAll_mk0)), rfl, bel.frame _, fun h => by cases h⟩

theorem over : Rows.fnExactNetSendRow.holds Try.pinned (OpenSpec.ofChange Rows.fnExactNetSendSpec) :=
  OpenClaim.holds_of_wide 4 Try.f4 rfl rfl rfl rfl rfl rfl rfl ⟨rfl, rfl, rfl, rfl, rfl⟩ rfl rfl rfl rfl rfl (by kernel_rfl) Try.func4 (by kernel_rfl)
    (of_decide_eq_true (by kernel_rfl)) (by unfold Func.isWrapper; first | (rw [if_pos (by decide +kernel)]; kernel_rfl) | (rw [if_neg (by decide +kernel)]; exact ⟨rfl, rfl⟩))
    (fun os started H enc _ => lifted os started H enc)

theorem proved : Rows.FnExactNetSendSaid := over
end Go.Proofs.Ytdampggjnmmhfaa.fnExactNetSend

namespace Go.Proofs.Ytdampggjnmmhfaa
theorem fnExactNetSend_holds : Rows.FnExactNetSendSaid := fnExactNetSend.proved
#print axioms fnExactNetSend_holds
end Go.Proofs.Ytdampggjnmmhfaa
