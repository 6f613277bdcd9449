/-
  Proved: at every table impl.TableOk answers as spec.TableOk and leaves its argument as it was (the law FnExactTableOk returns true, and its argument reads as before); no condition (of a table whose lines hold more than 1048576 lines, parts and bytes together the law asks nothing).
-/
import Derived.Test.YtpkenhcglnognaaRows
import Derived.Test.YtpkenhcglnognaaLawTb
import Derived.Test.YtpkenhcglnognaaTbOkJ
import Derived.Test.YtpkenhcglnognaaM3
import Derived.WalkKit
import Derived.ProofKit
import Derived.OpenShut
import Derived.ShutString
import Derived.ChangeOld
import Derived.Below
import Derived.Carry
namespace Go.Proofs.Ytpkenhcglnognaa.fnExactTableOk
open Go.ChangeShapes Go.WideShapes Go.ChangeAt Go.RowKit
open Go.ChangeMaps (open_string shut_string)
set_option linter.unusedVariables false

theorem own : ownKnob Try.prog.godebug = none := by kernel_rfl
theorem laidOut : laidOutB Try.prog = true := by kernel_rfl

set_option maxHeartbeats 16000000 in
set_option maxRecDepth 20000 in
theorem walk (t0 : Tb) (xs0 : List Ln) (pp0 : List (List (Int × ByteArray))) (w : World) (u0 : WfT w t0 xs0 pp0) :
    Calls Try.prog 3 #[.agg (tbCells t0)] w fun e w' => e = .returned (.bool true) ∧ Below w.heap.size w w' := by
  have G := Since.refl w
  have hS := fun wx Rx => szTable t0 xs0 pp0 wx Rx u0.wl
  go_enter Try.func3, Try.ntmps3
  go_upto_region 0 with (fail)
  refine vR ?_
  refine vW (w.alloc (.cells (tbCells t0) 25)) (.pointer (some ⟨w.heap.size, 0, none⟩)) ?_
  have qB2 := Blk.new w (tbCells t0) 25
  have qg3 := (Since.refl w).alloc (.cells (tbCells t0) 25)
  replace G := G.trans qg3
  generalize w.alloc (.cells (tbCells t0) 25) = qw1 at  G qB2 qg3 ⊢
  have qB2_l := qB2.lt
  have qg3_s := qg3.size
  refine vV (.bool false) ?_
  refine vE #[.agg (tbCells t0),.pointer (some ⟨w.heap.size, 0, none⟩),.bool false,U,U,U,U,U,U,U,U,U,U,U,U,U,U,U,U,U,U,U,U,U,U,U,U] ?_
  go_upto_region 1 with (fail)
  refine vR ?_
  refine vV (.int .i64 1048576) ?_
  refine vE #[.agg (tbCells t0),.pointer (some ⟨w.heap.size, 0, none⟩),.bool false,.int .i64 1048576,U,U,U,U,U,U,U,U,U,U,U,U,U,U,U,U,U,U,U,U,U,U,U] ?_
  go_upto_region 2 with (fail)
  refine vR ?_
  refine vB ltb_big qB2 rfl ?_
  refine vV (.int .i64 1048576) ?_
  refine vC (hS _ (u0.rl.since G)) ?_
  rintro _ qw4 ⟨⟨r, rfl, hb⟩, qg5⟩
  refine ⟨_, rfl, ?_⟩
  replace qB2 := qB2.since qg5
  replace G := G.trans qg5
  have qg5_s := qg5.size
  replace hb : Hid _ := hb
  refine vV (.int .i64 r) ?_
  refine vE #[.agg (tbCells t0),.pointer (some ⟨w.heap.size, 0, none⟩),.bool false,.int .i64 r,U,U,U,.agg (tbCells t0),.int .i64 1048576,.int .i64 r,U,U,U,U,U,U,U,U,U,U,U,U,U,U,U,U,U] ?_
  clear hS
  rcases Int.lt_or_le r 0 with hr | hr
  · go_wp2_with (fail)
    go_ret
    exact ⟨rfl, G⟩
  have gd := goodT_of u0 (hb.out hr)
  clear hb
  have hT := fun wx Rx => toTb t0 xs0 pp0 gd wx Rx
  obtain ⟨q, hq⟩ : ∃ q : Bool, q = true ↔ TableOk t0 xs0 pp0 := by
    by_cases h : TableOk t0 xs0 pp0
    · exact ⟨true, by simp [h]⟩
    · exact ⟨false, by simp [h]⟩
  go_upto_region 3 with (fail)
  refine vR ?_
  refine vV (.int .i64 r) ?_
  refine vV (.bool false) ?_ (hrun := by simp [execOp, go_sem]; omega)
  refine vE #[.agg (tbCells t0),.pointer (some ⟨w.heap.size, 0, none⟩),.bool false,.int .i64 r,U,U,U,.agg (tbCells t0),.int .i64 1048576,.int .i64 r,.int .i64 r,.bool false,U,U,U,U,U,U,U,U,U,U,U,U,U,U,U] ?_
  go_upto_region 5 with (fail)
  refine vR ?_
  refine vB ltb_big qB2 rfl ?_
  refine vC (hT _ (u0.rl.since G)) ?_
  rintro _ qw6 ⟨g1, y1, rfl, H1, qg7⟩
  refine ⟨_, rfl, ?_⟩
  replace qB2 := qB2.since qg7
  replace G := G.trans qg7
  have qg7_s := qg7.size
  refine vK (specTableOk (cpT t0 g1) y1 pp0 q (H1.ok hq) (Nat.le_trans gd.ln (by decide)) (H1.gc gd) _ H1.ol.reads) ?_
  intro qw8 qg9
  replace qB2 := qB2.since qg9
  replace H1 := H1.since qg9
  replace G := G.trans qg9
  have qg9_s := qg9.size
  clear H1
  refine vV (.bool q) ?_
  refine vE #[.agg (tbCells t0),.pointer (some ⟨w.heap.size, 0, none⟩),.bool false,.int .i64 r,.bool q,U,U,.agg (tbCells t0),.int .i64 1048576,.int .i64 r,.int .i64 r,.bool false,.agg (tbCells t0),.agg (tbCells (cpT t0 g1)),.bool q,U,U,U,U,U,U,U,U,U,U,U,U] ?_
  go_upto_region 6 with (fail)
  refine vR ?_
  refine vB ltb_big qB2 rfl ?_
  refine vC (hT _ (u0.rl.since G)) ?_
  rintro _ qw10 ⟨g2, y2, rfl, H2, qg11⟩
  refine ⟨_, rfl, ?_⟩
  replace qB2 := qB2.since qg11
  replace G := G.trans qg11
  have qg11_s := qg11.size
  refine vW (qw10.alloc (.cells (tbCells tbZero) 30)) (.pointer (some ⟨qw10.heap.size, 0, none⟩)) ?_
  have qB13 := Blk.new qw10 (tbCells tbZero) 30
  have qg14 := (Since.refl qw10).alloc (.cells (tbCells tbZero) 30)
  replace qB2 := qB2.since qg14
  replace H2 := H2.since qg14
  replace G := G.trans qg14
  generalize qw10.alloc (.cells (tbCells tbZero) 30) = qw12 at qB2 H2 G qB13 qg14 ⊢
  have qB13_l := qB13.lt
  have qg14_s := qg14.size
  refine sB (tbCells (cpT t0 g2)) tb_big qB13 rfl rfl (tb_one _) ?_
  intro qw15 qt16 qB17
  clear qB13
  replace qB2 := qB2.touch qt16 (by omega)
  replace H2 := H2.touch qt16 (by omega)
  replace G := since_touch G qt16 (by omega)
  have qt16_s := qt16.size
  refine vE #[.agg (tbCells t0),.pointer (some ⟨w.heap.size, 0, none⟩),.bool false,.int .i64 r,.bool q,.pointer (some ⟨qw10.heap.size, 0, none⟩),U,.agg (tbCells t0),.int .i64 1048576,.int .i64 r,.int .i64 r,.bool false,.agg (tbCells t0),.agg (tbCells (cpT t0 g1)),.bool q,.agg (tbCells t0),.agg (tbCells (cpT t0 g2)),U,U,U,U,U,U,U,U,U,U] ?_
  go_upto_region 7 with (fail)
  refine vR ?_
  refine vB tb_big qB17 rfl ?_
  refine vK (implTableOk (cpT t0 g2) y2 pp0 q (H2.ok hq) gd.ln (Nat.le_refl _) (H2.gc gd) (H2.wd gd) _ H2.ol.reads) ?_
  intro qw18 qg19
  replace qB2 := qB2.since qg19
  replace qB17 := qB17.since qg19
  replace H2 := H2.since qg19
  replace G := G.trans qg19
  have qg19_s := qg19.size
  refine vV (.bool q) ?_
  refine vE #[.agg (tbCells t0),.pointer (some ⟨w.heap.size, 0, none⟩),.bool false,.int .i64 r,.bool q,.pointer (some ⟨qw10.heap.size, 0, none⟩),.bool q,.agg (tbCells t0),.int .i64 1048576,.int .i64 r,.int .i64 r,.bool false,.agg (tbCells t0),.agg (tbCells (cpT t0 g1)),.bool q,.agg (tbCells t0),.agg (tbCells (cpT t0 g2)),.agg (tbCells (cpT t0 g2)),.bool q,U,U,U,U,U,U,U,U] ?_
  go_upto_region 8 with (fail)
  refine vR ?_
  refine vV (.bool q) ?_
  refine vV (.bool q) ?_
  refine vV (.bool false) ?_ (hrun := by cases q <;> simp [execOp, go_sem])
  refine vE #[.agg (tbCells t0),.pointer (some ⟨w.heap.size, 0, none⟩),.bool false,.int .i64 r,.bool q,.pointer (some ⟨qw10.heap.size, 0, none⟩),.bool q,.agg (tbCells t0),.int .i64 1048576,.int .i64 r,.int .i64 r,.bool false,.agg (tbCells t0),.agg (tbCells (cpT t0 g1)),.bool q,.agg (tbCells t0),.agg (tbCells (cpT t0 g2)),.agg (tbCells (cpT t0 g2)),.bool q,.bool q,.bool q,.bool false,U,U,U,U,U] ?_
  go_upto_region 10 with (fail)
  refine wp_region_each (wb := qw18) (fun zi x v => match zi with
      | 0 => v = .agg (tbCells (cpT t0 g2))
      | 1 => v = .agg (tbCells t0)
      | 2 => ∃ kk, v = .agg (tbCells (cpT t0 kk)) ∧ ∃ zs B M, CpT x B M t0.ln xs0 pp0 kk zs
      | 3 => v = .bool true
      | 4 => v = .bool false
      | _ => True) (fun v => { tmps := #[.agg (tbCells t0),.pointer (some ⟨w.heap.size, 0, none⟩),.bool false,.int .i64 r,.bool q,.pointer (some ⟨qw10.heap.size, 0, none⟩),.bool q,.agg (tbCells t0),.int .i64 1048576,.int .i64 r,.int .i64 r,.bool false,.agg (tbCells t0),.agg (tbCells (cpT t0 g1)),.bool q,.agg (tbCells t0),.agg (tbCells (cpT t0 g2)),.agg (tbCells (cpT t0 g2)),.bool q,.bool q,.bool q,.bool false,v 0,v 1,v 2,v 3,v 4], defers := [] }) (by kernel_rfl) (by kernel_rfl) (Since.refl _) ?_ (fun vals => by kernel_rfl) ?_ ?_
  case refine_1 =>
    intro j x x' v h1 h2
    match j, h2 with
    | 2, h2 =>
      obtain ⟨kk, e, zs, B, M, T⟩ := h2
      exact ⟨kk, e, zs, B, M, T.since h1⟩
    | 0, h2 | 1, h2 | 3, h2 | 4, h2 => exact h2
    | n + 5, _ => trivial
  case refine_2 =>
    repeat (first | exact eachDoes_nil | refine eachDoes_cons ?_ ?_)
    all_goals intro vals x hx hv
    all_goals simp [Region.binds] at hv
    · simp [does, doesUpon, go_sem, hv, Since.refl]
    · obtain ⟨h0, kk, h2, zs, B, M, T⟩ := hv
      simp [does, doesUpon, go_sem, h0, h2]
      refine (eqTb t0 xs0 y2 zs pp0 gd _ _ _ _ g2 kk _ (H2.since hx) T).mono ?_
      rintro _ x' ⟨rfl, h1⟩
      simp [h1]
    · simp [does, doesUpon, go_sem, hv]
      refine (hT _ (u0.rl.since (G.trans hx))).mono ?_
      rintro _ x' ⟨kk, zs, rfl, T, h1⟩
      exact ⟨_, rfl, h1, kk, rfl, zs, _, _, T⟩
    · exact does_load ltb_big rfl (qB2.since hx) _ rfl rfl ⟨Since.refl _, rfl⟩
    · exact does_load tb_big rfl (qB17.since hx) _ rfl rfl ⟨Since.refl _, rfl⟩
  case refine_3 =>
    intro vals x hx hv
    have hv4 : vals 4 = _ := hv 4 (by decide)
    clear hv
    simp only [hv4]
    replace G := G.trans hx
    go_wp2_with (fail)
    go_ret
    exact ⟨rfl, G⟩

set_option maxRecDepth 100000 in
theorem lifted (os : Os) (started : os.Started) (H : Type) (enc : TypeId × Value → H) :
    ReturnsInHanded {} Try.checked os 3 .any (Rows.fnExactTableOkSpec.pre6 enc Try.prog Try.f3 Rows.fnExactTableOkRow.domain false) (Rows.fnExactTableOkSpec.post enc Try.prog Try.f3 false true false false) := by
  refine returnsInHanded_of_change (C := Try.checked) own started (by kernel_rfl) Try.func3
    (ChangeSpec.witness6 (enc := enc) (C := Try.checked) false ⟨#[], #[.agg (tbCells tbZero)], []⟩ 8 (by kernel_rfl) (by kernel_rfl) (by kernel_rfl) (by kernel_rfl)) ?_
  intro W base args ds gs before hval0 hW hcnd _
  have hval : ∀ (j : Nat) t v, Try.f3.params[j]? = some t → args[j]? = some v → Value.okWide Try.prog W .any base t v := hval0
  have hW' := hW
  obtain ⟨p, q, hA0, hV, rfl, hfz, hnd⟩ := hW
  have hA : DataW.TrodAll enc Try.prog W 0 (fun _ => true) true Try.f3.params.toList args.toList ds p := hA0
  rw [Try.params3] at hA hval
  obtain ⟨v0, vs0, d0, ds0, p0, q0, hargs, rfl, rfl, h0, r0⟩ := trodAll_cons hA
  obtain ⟨rfl, rfl, rfl⟩ := trodAll_nil r0
  obtain rfl : args = #[v0] := by cases args; simp_all
  obtain ⟨rfl, rfl⟩ := trodVars_none hV
  have e0 := h0
  have lt0 : ∀ x ∈ p0, x.block < W.heap.size := by obtain ⟨m, hm⟩ := e0; exact DataW.trod_lt m _ _ _ hm
  obtain ⟨tv0, xv0, qv0, rfl, u0⟩ := open_table (hval 0 25 v0 rfl rfl) h0
  clear hA0 hval0
  refine (walk tv0 xv0 qv0 W u0).mono fun e W' ⟨he, bel⟩ => ?_
  subst he
  exact ⟨_, rfl, _, _, _, [], _, [], hW', trodAll_mk1 (shut_bool Try.underlying4 _), (trodAll_cons_mk (Below.trod laidOut (by kernel_rfl) (of_decide_eq_true (by kernel_rfl)) e0 bel lt0) trodAll_mk0), rfl, bel.frame _, fun h => by cases h⟩

theorem over : Rows.fnExactTableOkRow.holds Try.pinned (OpenSpec.ofChange Rows.fnExactTableOkSpec) :=
  OpenClaim.holds_of_wide 3 Try.f3 rfl rfl rfl rfl rfl rfl rfl ⟨rfl, rfl, rfl, rfl, rfl⟩ rfl rfl rfl rfl rfl (by kernel_rfl) Try.func3 (by kernel_rfl)
    (of_decide_eq_true (by kernel_rfl)) (by unfold Func.isWrapper; first | (rw [if_pos (by decide +kernel)]; kernel_rfl) | (rw [if_neg (by decide +kernel)]; exact ⟨rfl, rfl⟩))
    (fun os started H enc _ => lifted os started H enc)

theorem proved : Rows.FnExactTableOkSaid := over
end Go.Proofs.Ytpkenhcglnognaa.fnExactTableOk

namespace Go.Proofs.Ytpkenhcglnognaa
theorem fnExactTableOk_holds : Rows.FnExactTableOkSaid := fnExactTableOk.proved
#print axioms fnExactTableOk_holds
end Go.Proofs.Ytpkenhcglnognaa
