/-
  Proved: at every end impl.ConnOk answers as spec.ConnOk and leaves its argument as it was (the law FnExactConnOk returns true, and its argument reads as before); no condition (of an end of more than 1048576 bytes the law asks nothing).
-/
import Derived.Test.YtkdjmkdecddjjaaRows
import Derived.Test.YtkdjmkdecddjjaaOpenConn
import Derived.Test.YtkdjmkdecddjjaaConnLaw
import Derived.Test.YtkdjmkdecddjjaaConnOkI
import Derived.WalkKit
import Derived.ProofKit
import Derived.OpenShut
import Derived.ShutString
import Derived.ChangeOld
import Derived.Below
import Derived.Carry
namespace Go.Proofs.Ytkdjmkdecddjjaa.fnExactConnOk
open Go.ChangeShapes Go.WideShapes Go.ChangeAt Go.RowKit
open Go.ChangeMaps (open_string shut_string)
set_option linter.unusedVariables false

theorem own : ownKnob Try.prog.godebug = none := by kernel_rfl
theorem laidOut : laidOutB Try.prog = true := by kernel_rfl

theorem lw_big : IsBig 33 37 := ⟨⟨_, Try.underlying33, rfl⟩, by kernel_rfl⟩

/-- What the law knows of an end behind its look at how much there is. -/
theorem good_of {c : Cn} {ps : List (Int × ByteArray)} (u : WfC c ps) (h : (c.oD.size : Int) ≤ 1048576 ∧ (c.iD.size : Int) ≤ 1048576 ∧ (c.pn : Int) ≤ 1048576 ∧ ∀ i, i < c.pn → ((pAt ps i).2.size : Int) ≤ 1048576) : GoodC c ps :=
  ⟨isWord_wf u.v_iss, isWord_wf u.v_una, isWord_wf u.v_nxt, isWord_wf u.v_mx, isWord_wf u.v_wsq, isWord_wf u.v_wak, isWord_wf u.v_oF, isWord_wf u.v_fsq, isWord_wf u.v_cR, isWord_wf u.v_tsq, by omega,
   ⟨isWord_wf u.v_iN, by omega, by have := bounds_i64 u.v_iR; unfold IsInt; omega, by omega, fun i hi => ⟨isWord_wf (u.parts i hi).1, by have := h.2.2.2 i hi; omega⟩⟩⟩

theorem good_at {c : Cn} {ps : List (Int × ByteArray)} (g : GoodC c ps) (a : Option Addr) (p : Nat) : GoodC { c with pa := a, pc := p } ps :=
  ⟨g.w_iss, g.w_una, g.w_nxt, g.w_mx, g.w_wsq, g.w_wak, g.w_oF, g.w_fsq, g.w_cR, g.w_tsq, g.hod, g.gd⟩

set_option maxHeartbeats 16000000 in
set_option maxRecDepth 20000 in
theorem walk (c0 : Cn) (p0 : List (Int × ByteArray)) (w : World) (R0 : Rd shP w c0.pa c0.pn p0) (u0 : WfC c0 p0) :
    Calls Try.prog 3 #[.agg (cnCells c0)] w fun e w' => e = .returned (.bool true) ∧ Below w.heap.size w w' := by
  have A := Blk.new w (cnCells c0) 33
  have G := (Since.refl w).alloc (.cells (cnCells c0) 33)
  have hS := fun wx (Rx : Rd shP wx c0.pa c0.pn p0) => szConn c0 p0 1048576 (by omega) (by omega) u0.v_oD u0.v_iD wx Rx (fun i hi => (u0.parts i hi).2)
  unfold cnVal at hS
  go_enter Try.func3, Try.ntmps3
  go_upto_region 2 with (fail)
  generalize w.alloc (.cells (cnCells c0) 33) = w1 at A G ⊢
  refine wp_region_lit ?_
  refine load_big lw_big (cn_size _) A rfl _ rfl rfl ?_
  refine move_step rfl _ rfl ?_
  refine call_step rfl 5 #[.agg (cnCells c0), .int .i64 1048576] (by kernel_rfl) (hS _ (R0.since G)) ?_
  rintro _ w2 ⟨⟨r, rfl, hb⟩, g2⟩
  refine ⟨_, rfl, ?_⟩
  replace hb : Hid _ := hb
  replace G := G.trans g2
  replace A := A.since g2
  clear hS
  rcases Int.lt_or_le r 0 with hr | hr
  · go_wp2_with (fail)
    go_ret
    exact ⟨rfl, G⟩
  have gc := good_of u0 (hb.out hr)
  have hn : c0.pn ≤ 1048576 := gc.gd.hn
  clear hb
  have hT := fun wx (Rx : Rd shP wx c0.pa c0.pn p0) => toConn c0 p0 hn wx Rx
  unfold cnVal at hT
  go_upto_region 5 with (fail)
  refine wp_region_lit ?_
  refine load_big lw_big (cn_size _) A rfl _ rfl rfl ?_
  refine call_step rfl 7 #[.agg (cnCells c0)] (by kernel_rfl) (hT _ (R0.since G)) ?_
  rintro _ w3 ⟨q3, rfl, H3, g3⟩
  refine ⟨_, rfl, ?_⟩
  replace G := G.trans g3
  replace A := A.since g3
  have kS := specConnOk { c0 with pa := some ⟨q3, 0, none⟩, pc := c0.pn } p0 (good_at gc _ _) w3 H3.reads
  rw [show connOk { c0 with pa := some ⟨q3, 0, none⟩, pc := c0.pn } p0 = connOk c0 p0 from rfl] at kS
  have kI := fun q wx (Rx : Rd shP wx (some ⟨q, 0, none⟩) c0.pn p0) => implConnOk { c0 with pa := some ⟨q, 0, none⟩, pc := c0.pn } p0 (good_at gc _ _) wx Rx
  replace kI : ∀ q wx, Rd shP wx (some ⟨q, 0, none⟩) c0.pn p0 → Calls Try.prog 8 #[cnVal { c0 with pa := some ⟨q, 0, none⟩, pc := c0.pn }] wx fun e w' => e = .returned (.bool (connOk c0 p0)) ∧ Since wx w' := kI
  generalize connOk c0 p0 = q at kS kI
  refine call_step rfl 6 #[cnVal { c0 with pa := some ⟨q3, 0, none⟩, pc := c0.pn }] (by kernel_rfl) kS ?_
  rintro _ w4 ⟨rfl, g4⟩
  refine ⟨_, rfl, ?_⟩
  replace G := G.trans g4
  replace A := A.since g4
  clear kS H3
  go_upto_region 6 with (fail)
  refine wp_region_lit ?_
  refine load_big lw_big (cn_size _) A rfl _ rfl rfl ?_
  refine call_step rfl 7 #[.agg (cnCells c0)] (by kernel_rfl) (hT _ (R0.since G)) ?_
  rintro _ w5 ⟨q5, rfl, H5, g5⟩
  refine ⟨_, rfl, ?_⟩
  replace G := G.trans g5
  replace A := A.since g5
  refine step_val (w' := w5.alloc (.cells (cnCells cnZero) 43)) rfl (.pointer (some ⟨w5.heap.size, 0, none⟩)) (by kernel_rfl) ?_
  have h5 := A.lt
  have h5' := H5.lt
  have X := Blk.new w5 (cnCells cnZero) 43
  have g5' := (Since.refl w5).alloc (.cells (cnCells cnZero) 43)
  replace G := G.trans g5'
  replace A := A.since g5'
  replace H5 := H5.since g5'
  refine store_cn X rfl _ _ rfl rfl rfl ?_
  intro w6 t6 X6
  clear X
  replace A := A.touch t6 (by omega)
  replace H5 := H5.touch t6 (by omega)
  replace G := since_touch G t6 (by omega)
  go_upto_region 7 with (fail)
  refine wp_region_lit ?_
  refine load_cn X6 rfl _ rfl rfl ?_
  refine call_step rfl 8 #[cnVal { c0 with pa := some ⟨q5, 0, none⟩, pc := c0.pn }] (by kernel_rfl) (kI q5 _ H5.reads) ?_
  rintro _ w7 ⟨rfl, g7⟩
  refine ⟨_, rfl, ?_⟩
  replace G := G.trans g7
  replace A := A.since g7
  replace H5 := H5.since g7
  replace X6 := X6.since g7
  clear kI
  go_upto_region 10 with (fail)
  refine wp_region_each (wb := w7) (fun i x v => match i with
      | 0 => v = .agg (cnCells { c0 with pa := some ⟨q5, 0, none⟩, pc := c0.pn })
      | 1 => v = .agg (cnCells c0)
      | 2 => ∃ g, v = .agg (cnCells { c0 with pa := some ⟨g, 0, none⟩, pc := c0.pn }) ∧ Held shP x 0 g c0.pn c0.pn p0
      | 3 => v = .bool true
      | 4 => v = .bool false
      | _ => True) (fun v => { tmps := #[Value.agg (cnCells c0), Value.pointer (some ⟨w.heap.size, 0, none⟩), Value.bool false, Value.int IntKind.i64 r, Value.bool q, Value.pointer (some ⟨w5.heap.size, 0, none⟩), Value.bool q, Value.agg (cnCells c0), Value.int IntKind.i64 1048576, Value.int IntKind.i64 r, Value.int IntKind.i64 r, Value.bool (decide (r < 0)), Value.agg (cnCells c0), Value.agg (cnCells { st := c0.st, iss := c0.iss, una := c0.una, nxt := c0.nxt, mx := c0.mx, wnd := c0.wnd, wsq := c0.wsq, wak := c0.wak, oF := c0.oF, oD := c0.oD, oR := c0.oR, iN := c0.iN, iD := c0.iD, pa := some ⟨q3, 0, none⟩, pn := c0.pn, pc := c0.pn, iR := c0.iR, fin := c0.fin, fsn := c0.fsn, fsq := c0.fsq, gfn := c0.gfn, rA := c0.rA, rS := c0.rS, rV := c0.rV, rD := c0.rD, cX := c0.cX, cT := c0.cT, cD := c0.cD, cF := c0.cF, cR := c0.cR, tmg := c0.tmg, tsq := c0.tsq, tat := c0.tat, agn := c0.agn, prb := c0.prb, rst := c0.rst, trs := c0.trs, why := c0.why, owe := c0.owe }), Value.bool q, Value.agg (cnCells c0), Value.agg (cnCells { st := c0.st, iss := c0.iss, una := c0.una, nxt := c0.nxt, mx := c0.mx, wnd := c0.wnd, wsq := c0.wsq, wak := c0.wak, oF := c0.oF, oD := c0.oD, oR := c0.oR, iN := c0.iN, iD := c0.iD, pa := some ⟨q5, 0, none⟩, pn := c0.pn, pc := c0.pn, iR := c0.iR, fin := c0.fin, fsn := c0.fsn, fsq := c0.fsq, gfn := c0.gfn, rA := c0.rA, rS := c0.rS, rV := c0.rV, rD := c0.rD, cX := c0.cX, cT := c0.cT, cD := c0.cD, cF := c0.cF, cR := c0.cR, tmg := c0.tmg, tsq := c0.tsq, tat := c0.tat, agn := c0.agn, prb := c0.prb, rst := c0.rst, trs := c0.trs, why := c0.why, owe := c0.owe }), Value.agg (cnCells { st := c0.st, iss := c0.iss, una := c0.una, nxt := c0.nxt, mx := c0.mx, wnd := c0.wnd, wsq := c0.wsq, wak := c0.wak, oF := c0.oF, oD := c0.oD, oR := c0.oR, iN := c0.iN, iD := c0.iD, pa := some ⟨q5, 0, none⟩, pn := c0.pn, pc := c0.pn, iR := c0.iR, fin := c0.fin, fsn := c0.fsn, fsq := c0.fsq, gfn := c0.gfn, rA := c0.rA, rS := c0.rS, rV := c0.rV, rD := c0.rD, cX := c0.cX, cT := c0.cT, cD := c0.cD, cF := c0.cF, cR := c0.cR, tmg := c0.tmg, tsq := c0.tsq, tat := c0.tat, agn := c0.agn, prb := c0.prb, rst := c0.rst, trs := c0.trs, why := c0.why, owe := c0.owe }), Value.bool q, Value.bool q, Value.bool q, Value.bool false, v 0, v 1, v 2, v 3, v 4], defers := [] }) (by kernel_rfl) (by kernel_rfl) (Since.refl _) ?_ (fun vals => by kernel_rfl) ?_ ?_
  case refine_1 =>
    intro j x x' v h1 h2
    match j, h2 with
    | 2, h2 =>
      obtain ⟨g, e, T⟩ := h2
      exact ⟨g, e, T.since h1⟩
    | 0, h2 | 1, h2 | 3, h2 | 4, h2 => exact h2
    | n + 5, _ => trivial
  case refine_2 =>
    repeat (first | exact eachDoes_nil | refine eachDoes_cons ?_ ?_)
    all_goals intro vals x hx hv
    all_goals simp [Region.binds] at hv
    · simp [does, doesUpon, go_sem, hv, Since.refl]
    · obtain ⟨h0, g, h2, T⟩ := hv
      simp [does, doesUpon, go_sem, h0, h2]
      refine (eqConn { c0 with pa := some ⟨q5, 0, none⟩, pc := c0.pn } (some ⟨g, 0, none⟩) c0.pn p0 hn _ (H5.since hx).reads T.reads).mono ?_
      rintro _ x' ⟨rfl, h1⟩
      simp [h1]
    · simp [does, doesUpon, go_sem, hv]
      refine (hT _ (R0.since (G.trans hx))).mono ?_
      rintro _ x' ⟨g, rfl, T, h1⟩
      exact ⟨_, rfl, h1, g, rfl, T.raise (Nat.zero_le _)⟩
    · exact does_load lw_big (cn_size _) (A.since hx) _ rfl rfl ⟨Since.refl _, rfl⟩
    · exact does_load cn_big (cn_size _) (X6.since hx) _ rfl rfl ⟨Since.refl _, rfl⟩
  case refine_3 =>
    intro vals x hx hv
    have h4 : vals 4 = _ := hv 4 (by decide)
    clear hv
    simp only [h4]
    go_wp2_with (fail)
    go_ret
    exact ⟨rfl, G.trans hx⟩

set_option maxRecDepth 100000 in
theorem lifted (os : Os) (started : os.Started) (H : Type) (enc : TypeId × Value → H) :
    ReturnsInHanded {} Try.checked os 3 .any (Rows.fnExactConnOkSpec.pre6 enc Try.prog Try.f3 Rows.fnExactConnOkRow.domain false) (Rows.fnExactConnOkSpec.post enc Try.prog Try.f3 false true false false) := by
  refine returnsInHanded_of_change (C := Try.checked) own started (by kernel_rfl) Try.func3
    (ChangeSpec.witness6 (enc := enc) (C := Try.checked) false ⟨#[], #[.agg #[.int .i64 0, .int .u32 0, .int .u32 0, .int .u32 0, .int .u32 0, .int .i64 0, .int .u32 0, .int .u32 0, .int .u32 0, .string ByteArray.empty, .int .i64 0, .int .u32 0, .string ByteArray.empty, .slice none 0 0, .int .i64 0, .bool false, .bool false, .int .u32 0, .bool false, .bool false, .int .i64 0, .int .i64 0, .int .i64 0, .int .i64 0, .int .i64 0, .int .i64 0, .bool false, .int .u32 0, .bool false, .int .u32 0, .int .i64 0, .int .i64 0, .int .i64 0, .int .i64 0, .int .i64 0, .int .i64 0, .bool false]], []⟩ 8 (by kernel_rfl) (by kernel_rfl) (by kernel_rfl) (by kernel_rfl)) ?_
  intro W base args ds gs before hval0 hW hcnd _
  have hval : ∀ (j : Nat) t v, Try.f3.params[j]? = some t → args[j]? = some v → Value.okWide Try.prog W .any base t v := hval0
  have hW' := hW
  obtain ⟨p, q, hA0, hV, rfl, hfz, hnd⟩ := hW
  have hA : DataW.TrodAll enc Try.prog W 0 (fun _ => true) true Try.f3.params.toList args.toList ds p := hA0
  rw [Try.params3] at hA hval
  obtain ⟨v0, vs0, d0, ds0, p0, q0, hargs, rfl, rfl, h0, r0⟩ := trodAll_cons hA
  obtain ⟨rfl, rfl, rfl⟩ := trodAll_nil r0
  obtain rfl : args = #[v0] := by cases args; simp_all
  obtain ⟨rfl, rfl⟩ := trodVars_none hV
  have e0 := h0
  have lt0 : ∀ x ∈ p0, x.block < W.heap.size := by obtain ⟨m, hm⟩ := e0; exact DataW.trod_lt m _ _ _ hm
  obtain ⟨cv0, pv0, rfl, R0, u0⟩ := open_conn (hval 0 33 v0 rfl rfl) h0
  clear hA0 hval0
  refine (walk cv0 pv0 W R0 u0).mono fun e W' ⟨he, bel⟩ => ?_
  subst he
  exact ⟨_, rfl, _, _, _, [], _, [], hW', trodAll_mk1 (shut_bool Try.underlying4 _), (trodAll_cons_mk (Below.trod laidOut (by kernel_rfl) (of_decide_eq_true (by kernel_rfl)) e0 bel lt0) trodAll_mk0), rfl, bel.frame _, fun h => by cases h⟩

theorem over : Rows.fnExactConnOkRow.holds Try.pinned (OpenSpec.ofChange Rows.fnExactConnOkSpec) :=
  OpenClaim.holds_of_wide 3 Try.f3 rfl rfl rfl rfl rfl rfl rfl ⟨rfl, rfl, rfl, rfl, rfl⟩ rfl rfl rfl rfl rfl (by kernel_rfl) Try.func3 (by kernel_rfl)
    (of_decide_eq_true (by kernel_rfl)) (by unfold Func.isWrapper; first | (rw [if_pos (by decide +kernel)]; kernel_rfl) | (rw [if_neg (by decide +kernel)]; exact ⟨rfl, rfl⟩))
    (fun os started H enc _ => lifted os started H enc)

theorem proved : Rows.FnExactConnOkSaid := over
end Go.Proofs.Ytkdjmkdecddjjaa.fnExactConnOk

namespace Go.Proofs.Ytkdjmkdecddjjaa
theorem fnExactConnOk_holds : Rows.FnExactConnOkSaid := fnExactConnOk.proved
#print axioms fnExactConnOk_holds
end Go.Proofs.Ytkdjmkdecddjjaa
