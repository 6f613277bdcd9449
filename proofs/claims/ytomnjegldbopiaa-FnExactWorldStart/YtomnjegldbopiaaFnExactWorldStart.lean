/-
  Proved: at every argument impl.WorldStart answers as spec.WorldStart, and its answer owns its memory (the law FnExactWorldStart returns true, and its arguments read as before); no condition.
-/
import Derived.Test.YtomnjegldbopiaaRows
import Derived.Test.YtomnjegldbopiaaWorld14
import Derived.WalkKit
import Derived.ProofKit
import Derived.OpenShut
import Derived.ShutString
import Derived.ChangeOld
import Derived.Below
import Derived.Carry
namespace Go.Proofs.Ytomnjegldbopiaa.fnExactWorldStart
open Go.ChangeShapes Go.WideShapes Go.ChangeAt Go.RowKit
open Go.ChangeMaps (open_string shut_string)
set_option linter.unusedVariables false

theorem own : ownKnob Try.prog.godebug = none := by kernel_rfl
theorem laidOut : laidOutB Try.prog = true := by kernel_rfl

set_option maxHeartbeats 16000000 in
set_option maxRecDepth 20000 in
theorem walk (i0 i1 i2 i3 : Int) (b1 : Int) (b2 : Int) (w : World) (x00 : (Lit.int .u32 i0).wf = true) (x01 : (Lit.int .u32 i1).wf = true) (x02 : (Lit.int .u32 i2).wf = true) (x03 : (Lit.int .u32 i3).wf = true) (x1 : (Lit.int .i64 b1).wf = true) (x2 : (Lit.int .i64 b2).wf = true) :
    Calls Try.prog 3 #[.agg #[.int .u32 i0, .int .u32 i1, .int .u32 i2, .int .u32 i3], .int .i64 b1, .int .i64 b2] w fun e w' => e = .returned (.bool true) ∧ Below w.heap.size w w' := by
  by_cases hr : (1 ≤ b1 ∧ b1 ≤ 4096) ∧ (1 ≤ b2 ∧ b2 ≤ 2048)
  case pos =>
    have ht := fun wx => toA4 i0 i1 i2 i3 wx
    have hs := fun wx => specWStartP i0 i1 i2 i3 b1 b2 (isWord_wf x00) hr.1 hr.2 wx
    have hi := fun wx => implWStartP i0 i1 i2 i3 b1 b2 (isWord_wf x00) hr.1 hr.2 wx
    have hC : NoParts (startC 1 i0 b1 0 0) := ⟨rfl, rfl, rfl⟩
    generalize startC 1 i0 b1 0 0 = C at hs hi hC
    generalize askSg i0 b1 = S at hs hi
    have G := Since.refl w
    go_enter Try.func3, Try.ntmps3
    go_upto_region 0 with (fail)
    refine vR ?_
    refine vW (w.alloc (.cells #[.int .u32 i0, .int .u32 i1, .int .u32 i2, .int .u32 i3] 23)) (.pointer (some ⟨w.heap.size, 0, none⟩)) ?_
    have qB2 := Blk.new w #[.int .u32 i0, .int .u32 i1, .int .u32 i2, .int .u32 i3] 23
    have qg3 := (Since.refl w).alloc (.cells #[.int .u32 i0, .int .u32 i1, .int .u32 i2, .int .u32 i3] 23)
    replace G := G.trans qg3
    generalize w.alloc (.cells #[.int .u32 i0, .int .u32 i1, .int .u32 i2, .int .u32 i3] 23) = qw1 at  G qB2 qg3 ⊢
    have qB2_l := qB2.lt
    have qg3_s := qg3.size
    refine vV (.bool false) ?_
    refine vE #[.agg #[.int .u32 i0, .int .u32 i1, .int .u32 i2, .int .u32 i3],.int .i64 b1,.int .i64 b2,.pointer (some ⟨w.heap.size, 0, none⟩),U,U,.bool false,U,U,U,U,U,U,U,U,U,U,U,U,U,U,U,U,U,U,U,U,U,U,U,U,U,U,U,U,U,U,U,U,U,U,U,U,U,U,U,U,U,U,U,U,U,U,U,U,U,U,U,U,U,U,U,U,U,U,U,U,U,U,U,U,U,U,U,U,U] ?_
    go_upto_region 1 with (fail)
    refine vR ?_
    refine vB a4_big qB2 rfl ?_
    refine vK (ht _) ?_
    intro qw4 qg5
    replace qB2 := qB2.since qg5
    replace G := G.trans qg5
    have qg5_s := qg5.size
    refine vV (.int .i64 b1) ?_
    refine vV (.int .i64 b2) ?_
    refine vC (hs _) ?_
    rintro _ qw6 ⟨g1, rfl, H1, qg7⟩
    refine ⟨_, rfl, ?_⟩
    replace qB2 := qB2.since qg7
    replace G := G.trans qg7
    have qg7_s := qg7.size
    have H1_0 := H1.low'
    replace H1 := H1.raise (show w.heap.size ≤ g1 by omega)
    have H1_1 := H1.lt
    refine vV (.tuple #[.agg (wdCells ⟨⟨C, cnZero, false, i1, b1, some ⟨g1, 0, none⟩, 1, 1, none, 0, 0, 0, ByteArray.empty, ByteArray.empty, ByteArray.empty, ByteArray.empty⟩, prZero, false, i2, i3, b2, ByteArray.empty, false, 0, b2, ByteArray.empty, false, 0⟩), .bool true]) ?_
    refine vV (.agg (wdCells ⟨⟨C, cnZero, false, i1, b1, some ⟨g1, 0, none⟩, 1, 1, none, 0, 0, 0, ByteArray.empty, ByteArray.empty, ByteArray.empty, ByteArray.empty⟩, prZero, false, i2, i3, b2, ByteArray.empty, false, 0, b2, ByteArray.empty, false, 0⟩)) ?_
    refine vV (.bool true) ?_
    refine vW (qw6.alloc (.cells (wdCells wdZero) 43)) (.pointer (some ⟨qw6.heap.size, 0, none⟩)) ?_
    have qB9 := Blk.new qw6 (wdCells wdZero) 43
    have qg10 := (Since.refl qw6).alloc (.cells (wdCells wdZero) 43)
    replace qB2 := qB2.since qg10
    replace H1 := H1.since qg10
    replace G := G.trans qg10
    generalize qw6.alloc (.cells (wdCells wdZero) 43) = qw8 at qB2 H1 G qB9 qg10 ⊢
    have qB9_l := qB9.lt
    have qg10_s := qg10.size
    refine sB (wdCells ⟨⟨C, cnZero, false, i1, b1, some ⟨g1, 0, none⟩, 1, 1, none, 0, 0, 0, ByteArray.empty, ByteArray.empty, ByteArray.empty, ByteArray.empty⟩, prZero, false, i2, i3, b2, ByteArray.empty, false, 0, b2, ByteArray.empty, false, 0⟩) wd_big qB9 (wd_size _) (wd_size _) (wd_one _) ?_
    intro qw11 qt12 qB13
    clear qB9
    replace qB2 := qB2.touch qt12 (by omega)
    replace H1 := H1.touch qt12 (by omega)
    replace G := since_touch G qt12 (by omega)
    have qt12_s := qt12.size
    refine vV (.bool true) ?_
    refine vE #[.agg #[.int .u32 i0, .int .u32 i1, .int .u32 i2, .int .u32 i3],.int .i64 b1,.int .i64 b2,.pointer (some ⟨w.heap.size, 0, none⟩),U,U,.bool false,.pointer (some ⟨qw6.heap.size, 0, none⟩),.bool true,U,U,U,U,U,U,.tuple #[.agg (wdCells ⟨⟨C, cnZero, false, i1, b1, some ⟨g1, 0, none⟩, 1, 1, none, 0, 0, 0, ByteArray.empty, ByteArray.empty, ByteArray.empty, ByteArray.empty⟩, prZero, false, i2, i3, b2, ByteArray.empty, false, 0, b2, ByteArray.empty, false, 0⟩), .bool true],.agg #[.int .u32 i0, .int .u32 i1, .int .u32 i2, .int .u32 i3],.agg #[.int .u32 i0, .int .u32 i1, .int .u32 i2, .int .u32 i3],.int .i64 b1,.int .i64 b2,.tuple #[.agg (wdCells ⟨⟨C, cnZero, false, i1, b1, some ⟨g1, 0, none⟩, 1, 1, none, 0, 0, 0, ByteArray.empty, ByteArray.empty, ByteArray.empty, ByteArray.empty⟩, prZero, false, i2, i3, b2, ByteArray.empty, false, 0, b2, ByteArray.empty, false, 0⟩), .bool true],.agg (wdCells ⟨⟨C, cnZero, false, i1, b1, some ⟨g1, 0, none⟩, 1, 1, none, 0, 0, 0, ByteArray.empty, ByteArray.empty, ByteArray.empty, ByteArray.empty⟩, prZero, false, i2, i3, b2, ByteArray.empty, false, 0, b2, ByteArray.empty, false, 0⟩),.bool true,U,U,U,U,U,U,U,U,U,U,U,U,U,U,U,U,U,U,U,U,U,U,U,U,U,U,U,U,U,U,U,U,U,U,U,U,U,U,U,U,U,U,U,U,U,U,U,U,U,U,U,U,U] ?_
    go_upto_region 2 with (fail)
    refine vR ?_
    refine vB a4_big qB2 rfl ?_
    refine vK (ht _) ?_
    intro qw14 qg15
    replace qB2 := qB2.since qg15
    replace qB13 := qB13.since qg15
    replace H1 := H1.since qg15
    replace G := G.trans qg15
    have qg15_s := qg15.size
    refine vV (.int .i64 b1) ?_
    refine vV (.int .i64 b2) ?_
    refine vC (hi _) ?_
    rintro _ qw16 ⟨g2, rfl, H2, qg17⟩
    refine ⟨_, rfl, ?_⟩
    replace qB2 := qB2.since qg17
    replace qB13 := qB13.since qg17
    replace H1 := H1.since qg17
    replace G := G.trans qg17
    have qg17_s := qg17.size
    have H2_0 := H2.low'
    replace H2 := H2.raise (show w.heap.size ≤ g2 by omega)
    have H2_1 := H2.lt
    refine vV (.tuple #[.agg (wdCells ⟨⟨C, cnZero, false, i1, b1, some ⟨g2, 0, none⟩, 1, 1, none, 0, 0, 0, ByteArray.empty, ByteArray.empty, ByteArray.empty, ByteArray.empty⟩, prZero, false, i2, i3, b2, ByteArray.empty, false, 0, b2, ByteArray.empty, false, 0⟩), .bool true]) ?_
    refine vV (.agg (wdCells ⟨⟨C, cnZero, false, i1, b1, some ⟨g2, 0, none⟩, 1, 1, none, 0, 0, 0, ByteArray.empty, ByteArray.empty, ByteArray.empty, ByteArray.empty⟩, prZero, false, i2, i3, b2, ByteArray.empty, false, 0, b2, ByteArray.empty, false, 0⟩)) ?_
    refine vV (.bool true) ?_
    refine vW (qw16.alloc (.cells (wdCells wdZero) 43)) (.pointer (some ⟨qw16.heap.size, 0, none⟩)) ?_
    have qB19 := Blk.new qw16 (wdCells wdZero) 43
    have qg20 := (Since.refl qw16).alloc (.cells (wdCells wdZero) 43)
    replace qB2 := qB2.since qg20
    replace qB13 := qB13.since qg20
    replace H1 := H1.since qg20
    replace H2 := H2.since qg20
    replace G := G.trans qg20
    generalize qw16.alloc (.cells (wdCells wdZero) 43) = qw18 at qB2 qB13 H1 H2 G qB19 qg20 ⊢
    have qB19_l := qB19.lt
    have qg20_s := qg20.size
    refine sB (wdCells ⟨⟨C, cnZero, false, i1, b1, some ⟨g2, 0, none⟩, 1, 1, none, 0, 0, 0, ByteArray.empty, ByteArray.empty, ByteArray.empty, ByteArray.empty⟩, prZero, false, i2, i3, b2, ByteArray.empty, false, 0, b2, ByteArray.empty, false, 0⟩) wd_big qB19 (wd_size _) (wd_size _) (wd_one _) ?_
    intro qw21 qt22 qB23
    clear qB19
    replace qB2 := qB2.touch qt22 (by omega)
    replace qB13 := qB13.touch qt22 (by omega)
    replace H1 := H1.touch qt22 (by omega)
    replace H2 := H2.touch qt22 (by omega)
    replace G := since_touch G qt22 (by omega)
    have qt22_s := qt22.size
    refine vV (.bool true) ?_
    refine vE #[.agg #[.int .u32 i0, .int .u32 i1, .int .u32 i2, .int .u32 i3],.int .i64 b1,.int .i64 b2,.pointer (some ⟨w.heap.size, 0, none⟩),U,U,.bool false,.pointer (some ⟨qw6.heap.size, 0, none⟩),.bool true,.pointer (some ⟨qw16.heap.size, 0, none⟩),.bool true,U,U,U,U,.tuple #[.agg (wdCells ⟨⟨C, cnZero, false, i1, b1, some ⟨g1, 0, none⟩, 1, 1, none, 0, 0, 0, ByteArray.empty, ByteArray.empty, ByteArray.empty, ByteArray.empty⟩, prZero, false, i2, i3, b2, ByteArray.empty, false, 0, b2, ByteArray.empty, false, 0⟩), .bool true],.agg #[.int .u32 i0, .int .u32 i1, .int .u32 i2, .int .u32 i3],.agg #[.int .u32 i0, .int .u32 i1, .int .u32 i2, .int .u32 i3],.int .i64 b1,.int .i64 b2,.tuple #[.agg (wdCells ⟨⟨C, cnZero, false, i1, b1, some ⟨g1, 0, none⟩, 1, 1, none, 0, 0, 0, ByteArray.empty, ByteArray.empty, ByteArray.empty, ByteArray.empty⟩, prZero, false, i2, i3, b2, ByteArray.empty, false, 0, b2, ByteArray.empty, false, 0⟩), .bool true],.agg (wdCells ⟨⟨C, cnZero, false, i1, b1, some ⟨g1, 0, none⟩, 1, 1, none, 0, 0, 0, ByteArray.empty, ByteArray.empty, ByteArray.empty, ByteArray.empty⟩, prZero, false, i2, i3, b2, ByteArray.empty, false, 0, b2, ByteArray.empty, false, 0⟩),.bool true,.tuple #[.agg (wdCells ⟨⟨C, cnZero, false, i1, b1, some ⟨g2, 0, none⟩, 1, 1, none, 0, 0, 0, ByteArray.empty, ByteArray.empty, ByteArray.empty, ByteArray.empty⟩, prZero, false, i2, i3, b2, ByteArray.empty, false, 0, b2, ByteArray.empty, false, 0⟩), .bool true],.agg #[.int .u32 i0, .int .u32 i1, .int .u32 i2, .int .u32 i3],.agg #[.int .u32 i0, .int .u32 i1, .int .u32 i2, .int .u32 i3],.int .i64 b1,.int .i64 b2,.tuple #[.agg (wdCells ⟨⟨C, cnZero, false, i1, b1, some ⟨g2, 0, none⟩, 1, 1, none, 0, 0, 0, ByteArray.empty, ByteArray.empty, ByteArray.empty, ByteArray.empty⟩, prZero, false, i2, i3, b2, ByteArray.empty, false, 0, b2, ByteArray.empty, false, 0⟩), .bool true],.agg (wdCells ⟨⟨C, cnZero, false, i1, b1, some ⟨g2, 0, none⟩, 1, 1, none, 0, 0, 0, ByteArray.empty, ByteArray.empty, ByteArray.empty, ByteArray.empty⟩, prZero, false, i2, i3, b2, ByteArray.empty, false, 0, b2, ByteArray.empty, false, 0⟩),.bool true,U,U,U,U,U,U,U,U,U,U,U,U,U,U,U,U,U,U,U,U,U,U,U,U,U,U,U,U,U,U,U,U,U,U,U,U,U,U,U,U,U,U,U,U,U] ?_
    go_upto_region 3 with (fail)
    refine vR ?_
    refine vB wd_big qB23 (wd_size _) ?_
    refine vB wd_big qB13 (wd_size _) ?_
    refine vK (eqWd ⟨⟨C, cnZero, false, i1, b1, some ⟨g2, 0, none⟩, 1, 1, none, 0, 0, 0, ByteArray.empty, ByteArray.empty, ByteArray.empty, ByteArray.empty⟩, prZero, false, i2, i3, b2, ByteArray.empty, false, 0, b2, ByteArray.empty, false, 0⟩ ⟨C, cnZero, false, i1, b1, some ⟨g1, 0, none⟩, 1, 1, none, 0, 0, 0, ByteArray.empty, ByteArray.empty, ByteArray.empty, ByteArray.empty⟩ prZero _ (fun wx s => (eqPr ⟨C, cnZero, false, i1, b1, some ⟨g2, 0, none⟩, 1, 1, none, 0, 0, 0, ByteArray.empty, ByteArray.empty, ByteArray.empty, ByteArray.empty⟩ C cnZero (some ⟨g1, 0, none⟩) 1 none 0 _ (fun wy t => eq0 C hC wy) (fun wy t => eq0 cnZero ⟨rfl, rfl, rfl⟩ wy) (fun wy t => eqSegs _ _ _ _ 1 1 1 _ (by omega) wy (H2.since (s.trans t)) (H1.since (s.trans t))) (fun wy t => eqNil wy))) (fun wx s => (eqPr prZero cnZero cnZero none 0 none 0 _ (fun wx s => eq0 cnZero ⟨rfl, rfl, rfl⟩ wx) (fun wx s => eq0 cnZero ⟨rfl, rfl, rfl⟩ wx) (fun wx s => eqNil wx) (fun wx s => eqNil wx)))) ?_
    intro qw24 qg25
    replace qB2 := qB2.since qg25
    replace qB13 := qB13.since qg25
    replace qB23 := qB23.since qg25
    replace H1 := H1.since qg25
    replace H2 := H2.since qg25
    replace G := G.trans qg25
    have qg25_s := qg25.size
    refine vV (.bool false) ?_
    refine vV (.bool false) ?_
    refine vV (.bool true) ?_
    refine vV (.bool true) ?_
    refine vV (.bool false) ?_
    refine vV (.bool false) ?_
    refine vE #[.agg #[.int .u32 i0, .int .u32 i1, .int .u32 i2, .int .u32 i3],.int .i64 b1,.int .i64 b2,.pointer (some ⟨w.heap.size, 0, none⟩),U,U,.bool false,.pointer (some ⟨qw6.heap.size, 0, none⟩),.bool true,.pointer (some ⟨qw16.heap.size, 0, none⟩),.bool true,U,U,U,U,.tuple #[.agg (wdCells ⟨⟨C, cnZero, false, i1, b1, some ⟨g1, 0, none⟩, 1, 1, none, 0, 0, 0, ByteArray.empty, ByteArray.empty, ByteArray.empty, ByteArray.empty⟩, prZero, false, i2, i3, b2, ByteArray.empty, false, 0, b2, ByteArray.empty, false, 0⟩), .bool true],.agg #[.int .u32 i0, .int .u32 i1, .int .u32 i2, .int .u32 i3],.agg #[.int .u32 i0, .int .u32 i1, .int .u32 i2, .int .u32 i3],.int .i64 b1,.int .i64 b2,.tuple #[.agg (wdCells ⟨⟨C, cnZero, false, i1, b1, some ⟨g1, 0, none⟩, 1, 1, none, 0, 0, 0, ByteArray.empty, ByteArray.empty, ByteArray.empty, ByteArray.empty⟩, prZero, false, i2, i3, b2, ByteArray.empty, false, 0, b2, ByteArray.empty, false, 0⟩), .bool true],.agg (wdCells ⟨⟨C, cnZero, false, i1, b1, some ⟨g1, 0, none⟩, 1, 1, none, 0, 0, 0, ByteArray.empty, ByteArray.empty, ByteArray.empty, ByteArray.empty⟩, prZero, false, i2, i3, b2, ByteArray.empty, false, 0, b2, ByteArray.empty, false, 0⟩),.bool true,.tuple #[.agg (wdCells ⟨⟨C, cnZero, false, i1, b1, some ⟨g2, 0, none⟩, 1, 1, none, 0, 0, 0, ByteArray.empty, ByteArray.empty, ByteArray.empty, ByteArray.empty⟩, prZero, false, i2, i3, b2, ByteArray.empty, false, 0, b2, ByteArray.empty, false, 0⟩), .bool true],.agg #[.int .u32 i0, .int .u32 i1, .int .u32 i2, .int .u32 i3],.agg #[.int .u32 i0, .int .u32 i1, .int .u32 i2, .int .u32 i3],.int .i64 b1,.int .i64 b2,.tuple #[.agg (wdCells ⟨⟨C, cnZero, false, i1, b1, some ⟨g2, 0, none⟩, 1, 1, none, 0, 0, 0, ByteArray.empty, ByteArray.empty, ByteArray.empty, ByteArray.empty⟩, prZero, false, i2, i3, b2, ByteArray.empty, false, 0, b2, ByteArray.empty, false, 0⟩), .bool true],.agg (wdCells ⟨⟨C, cnZero, false, i1, b1, some ⟨g2, 0, none⟩, 1, 1, none, 0, 0, 0, ByteArray.empty, ByteArray.empty, ByteArray.empty, ByteArray.empty⟩, prZero, false, i2, i3, b2, ByteArray.empty, false, 0, b2, ByteArray.empty, false, 0⟩),.bool true,.agg (wdCells ⟨⟨C, cnZero, false, i1, b1, some ⟨g2, 0, none⟩, 1, 1, none, 0, 0, 0, ByteArray.empty, ByteArray.empty, ByteArray.empty, ByteArray.empty⟩, prZero, false, i2, i3, b2, ByteArray.empty, false, 0, b2, ByteArray.empty, false, 0⟩),.agg (wdCells ⟨⟨C, cnZero, false, i1, b1, some ⟨g1, 0, none⟩, 1, 1, none, 0, 0, 0, ByteArray.empty, ByteArray.empty, ByteArray.empty, ByteArray.empty⟩, prZero, false, i2, i3, b2, ByteArray.empty, false, 0, b2, ByteArray.empty, false, 0⟩),.bool true,.bool false,.bool false,.bool true,.bool true,.bool false,.bool false,U,U,U,U,U,U,U,U,U,U,U,U,U,U,U,U,U,U,U,U,U,U,U,U,U,U,U,U,U,U,U,U,U,U,U,U] ?_
    go_upto_region 6 with (fail)
    refine vR ?_
    refine vB wd_big qB23 (wd_size _) ?_
    refine vV (.int .i64 1) ?_
    refine vC (markWd C hC i1 b1 i2 i3 b2 _ g2 _ _ H2) ?_
    have H2_2 := H2.low'
    rintro _ qw26 ⟨rfl, qt27, ms, hM, H2n⟩
    refine ⟨_, rfl, ?_⟩
    clear H2
    have H2 := H2n
    clear H2n
    replace qB2 := qB2.touch qt27 (by omega)
    replace qB13 := qB13.touch qt27 (by omega)
    replace qB23 := qB23.touch qt27 (by omega)
    replace H1 := H1.touch qt27 (by omega)
    replace G := since_touch G qt27 (by omega)
    have qt27_s := qt27.size
    refine vV (.int .i64 (1 + 8 * ((1 : Nat) : Int))) ?_
    refine vE #[.agg #[.int .u32 i0, .int .u32 i1, .int .u32 i2, .int .u32 i3],.int .i64 b1,.int .i64 b2,.pointer (some ⟨w.heap.size, 0, none⟩),U,U,.bool false,.pointer (some ⟨qw6.heap.size, 0, none⟩),.bool true,.pointer (some ⟨qw16.heap.size, 0, none⟩),.bool true,.int .i64 (1 + 8 * ((1 : Nat) : Int)),U,U,U,.tuple #[.agg (wdCells ⟨⟨C, cnZero, false, i1, b1, some ⟨g1, 0, none⟩, 1, 1, none, 0, 0, 0, ByteArray.empty, ByteArray.empty, ByteArray.empty, ByteArray.empty⟩, prZero, false, i2, i3, b2, ByteArray.empty, false, 0, b2, ByteArray.empty, false, 0⟩), .bool true],.agg #[.int .u32 i0, .int .u32 i1, .int .u32 i2, .int .u32 i3],.agg #[.int .u32 i0, .int .u32 i1, .int .u32 i2, .int .u32 i3],.int .i64 b1,.int .i64 b2,.tuple #[.agg (wdCells ⟨⟨C, cnZero, false, i1, b1, some ⟨g1, 0, none⟩, 1, 1, none, 0, 0, 0, ByteArray.empty, ByteArray.empty, ByteArray.empty, ByteArray.empty⟩, prZero, false, i2, i3, b2, ByteArray.empty, false, 0, b2, ByteArray.empty, false, 0⟩), .bool true],.agg (wdCells ⟨⟨C, cnZero, false, i1, b1, some ⟨g1, 0, none⟩, 1, 1, none, 0, 0, 0, ByteArray.empty, ByteArray.empty, ByteArray.empty, ByteArray.empty⟩, prZero, false, i2, i3, b2, ByteArray.empty, false, 0, b2, ByteArray.empty, false, 0⟩),.bool true,.tuple #[.agg (wdCells ⟨⟨C, cnZero, false, i1, b1, some ⟨g2, 0, none⟩, 1, 1, none, 0, 0, 0, ByteArray.empty, ByteArray.empty, ByteArray.empty, ByteArray.empty⟩, prZero, false, i2, i3, b2, ByteArray.empty, false, 0, b2, ByteArray.empty, false, 0⟩), .bool true],.agg #[.int .u32 i0, .int .u32 i1, .int .u32 i2, .int .u32 i3],.agg #[.int .u32 i0, .int .u32 i1, .int .u32 i2, .int .u32 i3],.int .i64 b1,.int .i64 b2,.tuple #[.agg (wdCells ⟨⟨C, cnZero, false, i1, b1, some ⟨g2, 0, none⟩, 1, 1, none, 0, 0, 0, ByteArray.empty, ByteArray.empty, ByteArray.empty, ByteArray.empty⟩, prZero, false, i2, i3, b2, ByteArray.empty, false, 0, b2, ByteArray.empty, false, 0⟩), .bool true],.agg (wdCells ⟨⟨C, cnZero, false, i1, b1, some ⟨g2, 0, none⟩, 1, 1, none, 0, 0, 0, ByteArray.empty, ByteArray.empty, ByteArray.empty, ByteArray.empty⟩, prZero, false, i2, i3, b2, ByteArray.empty, false, 0, b2, ByteArray.empty, false, 0⟩),.bool true,.agg (wdCells ⟨⟨C, cnZero, false, i1, b1, some ⟨g2, 0, none⟩, 1, 1, none, 0, 0, 0, ByteArray.empty, ByteArray.empty, ByteArray.empty, ByteArray.empty⟩, prZero, false, i2, i3, b2, ByteArray.empty, false, 0, b2, ByteArray.empty, false, 0⟩),.agg (wdCells ⟨⟨C, cnZero, false, i1, b1, some ⟨g1, 0, none⟩, 1, 1, none, 0, 0, 0, ByteArray.empty, ByteArray.empty, ByteArray.empty, ByteArray.empty⟩, prZero, false, i2, i3, b2, ByteArray.empty, false, 0, b2, ByteArray.empty, false, 0⟩),.bool true,.bool false,.bool false,.bool true,.bool true,.bool false,.bool false,.agg (wdCells ⟨⟨C, cnZero, false, i1, b1, some ⟨g2, 0, none⟩, 1, 1, none, 0, 0, 0, ByteArray.empty, ByteArray.empty, ByteArray.empty, ByteArray.empty⟩, prZero, false, i2, i3, b2, ByteArray.empty, false, 0, b2, ByteArray.empty, false, 0⟩),.int .i64 1,.int .i64 (1 + 8 * ((1 : Nat) : Int)),U,U,U,U,U,U,U,U,U,U,U,U,U,U,U,U,U,U,U,U,U,U,U,U,U,U,U,U,U,U,U,U,U] ?_
    go_upto_region 8 with (fail)
    refine vR ?_
    refine vB wd_big qB23 (wd_size _) ?_
    refine vV (.int .i64 1) ?_
    refine vK (heldWd C hC i1 b1 i2 i3 b2 _ g2 _ _ H2 hM) ?_
    intro qw28 qg29
    replace qB2 := qB2.since qg29
    replace qB13 := qB13.since qg29
    replace qB23 := qB23.since qg29
    replace H1 := H1.since qg29
    replace H2 := H2.since qg29
    replace G := G.trans qg29
    have qg29_s := qg29.size
    refine vV (.int .i64 (1 + 8 * ((1 : Nat) : Int))) ?_
    refine vE #[.agg #[.int .u32 i0, .int .u32 i1, .int .u32 i2, .int .u32 i3],.int .i64 b1,.int .i64 b2,.pointer (some ⟨w.heap.size, 0, none⟩),U,U,.bool false,.pointer (some ⟨qw6.heap.size, 0, none⟩),.bool true,.pointer (some ⟨qw16.heap.size, 0, none⟩),.bool true,.int .i64 (1 + 8 * ((1 : Nat) : Int)),.int .i64 (1 + 8 * ((1 : Nat) : Int)),U,U,.tuple #[.agg (wdCells ⟨⟨C, cnZero, false, i1, b1, some ⟨g1, 0, none⟩, 1, 1, none, 0, 0, 0, ByteArray.empty, ByteArray.empty, ByteArray.empty, ByteArray.empty⟩, prZero, false, i2, i3, b2, ByteArray.empty, false, 0, b2, ByteArray.empty, false, 0⟩), .bool true],.agg #[.int .u32 i0, .int .u32 i1, .int .u32 i2, .int .u32 i3],.agg #[.int .u32 i0, .int .u32 i1, .int .u32 i2, .int .u32 i3],.int .i64 b1,.int .i64 b2,.tuple #[.agg (wdCells ⟨⟨C, cnZero, false, i1, b1, some ⟨g1, 0, none⟩, 1, 1, none, 0, 0, 0, ByteArray.empty, ByteArray.empty, ByteArray.empty, ByteArray.empty⟩, prZero, false, i2, i3, b2, ByteArray.empty, false, 0, b2, ByteArray.empty, false, 0⟩), .bool true],.agg (wdCells ⟨⟨C, cnZero, false, i1, b1, some ⟨g1, 0, none⟩, 1, 1, none, 0, 0, 0, ByteArray.empty, ByteArray.empty, ByteArray.empty, ByteArray.empty⟩, prZero, false, i2, i3, b2, ByteArray.empty, false, 0, b2, ByteArray.empty, false, 0⟩),.bool true,.tuple #[.agg (wdCells ⟨⟨C, cnZero, false, i1, b1, some ⟨g2, 0, none⟩, 1, 1, none, 0, 0, 0, ByteArray.empty, ByteArray.empty, ByteArray.empty, ByteArray.empty⟩, prZero, false, i2, i3, b2, ByteArray.empty, false, 0, b2, ByteArray.empty, false, 0⟩), .bool true],.agg #[.int .u32 i0, .int .u32 i1, .int .u32 i2, .int .u32 i3],.agg #[.int .u32 i0, .int .u32 i1, .int .u32 i2, .int .u32 i3],.int .i64 b1,.int .i64 b2,.tuple #[.agg (wdCells ⟨⟨C, cnZero, false, i1, b1, some ⟨g2, 0, none⟩, 1, 1, none, 0, 0, 0, ByteArray.empty, ByteArray.empty, ByteArray.empty, ByteArray.empty⟩, prZero, false, i2, i3, b2, ByteArray.empty, false, 0, b2, ByteArray.empty, false, 0⟩), .bool true],.agg (wdCells ⟨⟨C, cnZero, false, i1, b1, some ⟨g2, 0, none⟩, 1, 1, none, 0, 0, 0, ByteArray.empty, ByteArray.empty, ByteArray.empty, ByteArray.empty⟩, prZero, false, i2, i3, b2, ByteArray.empty, false, 0, b2, ByteArray.empty, false, 0⟩),.bool true,.agg (wdCells ⟨⟨C, cnZero, false, i1, b1, some ⟨g2, 0, none⟩, 1, 1, none, 0, 0, 0, ByteArray.empty, ByteArray.empty, ByteArray.empty, ByteArray.empty⟩, prZero, false, i2, i3, b2, ByteArray.empty, false, 0, b2, ByteArray.empty, false, 0⟩),.agg (wdCells ⟨⟨C, cnZero, false, i1, b1, some ⟨g1, 0, none⟩, 1, 1, none, 0, 0, 0, ByteArray.empty, ByteArray.empty, ByteArray.empty, ByteArray.empty⟩, prZero, false, i2, i3, b2, ByteArray.empty, false, 0, b2, ByteArray.empty, false, 0⟩),.bool true,.bool false,.bool false,.bool true,.bool true,.bool false,.bool false,.agg (wdCells ⟨⟨C, cnZero, false, i1, b1, some ⟨g2, 0, none⟩, 1, 1, none, 0, 0, 0, ByteArray.empty, ByteArray.empty, ByteArray.empty, ByteArray.empty⟩, prZero, false, i2, i3, b2, ByteArray.empty, false, 0, b2, ByteArray.empty, false, 0⟩),.int .i64 1,.int .i64 (1 + 8 * ((1 : Nat) : Int)),.agg (wdCells ⟨⟨C, cnZero, false, i1, b1, some ⟨g2, 0, none⟩, 1, 1, none, 0, 0, 0, ByteArray.empty, ByteArray.empty, ByteArray.empty, ByteArray.empty⟩, prZero, false, i2, i3, b2, ByteArray.empty, false, 0, b2, ByteArray.empty, false, 0⟩),.int .i64 1,.int .i64 (1 + 8 * ((1 : Nat) : Int)),U,U,U,U,U,U,U,U,U,U,U,U,U,U,U,U,U,U,U,U,U,U,U,U,U,U,U,U,U,U] ?_
    go_upto_region 13 with (fail)
    refine vR ?_
    refine vB a4_big qB2 rfl ?_
    refine vK (ht _) ?_
    intro qw30 qg31
    replace qB2 := qB2.since qg31
    replace qB13 := qB13.since qg31
    replace qB23 := qB23.since qg31
    replace H1 := H1.since qg31
    replace H2 := H2.since qg31
    replace G := G.trans qg31
    have qg31_s := qg31.size
    refine vV (.int .i64 b1) ?_
    refine vV (.int .i64 b2) ?_
    refine vC (hi _) ?_
    rintro _ qw32 ⟨g3, rfl, H3, qg33⟩
    refine ⟨_, rfl, ?_⟩
    replace qB2 := qB2.since qg33
    replace qB13 := qB13.since qg33
    replace qB23 := qB23.since qg33
    replace H1 := H1.since qg33
    replace H2 := H2.since qg33
    replace G := G.trans qg33
    have qg33_s := qg33.size
    have H3_0 := H3.low'
    replace H3 := H3.raise (show w.heap.size ≤ g3 by omega)
    have H3_1 := H3.lt
    refine vV (.tuple #[.agg (wdCells ⟨⟨C, cnZero, false, i1, b1, some ⟨g3, 0, none⟩, 1, 1, none, 0, 0, 0, ByteArray.empty, ByteArray.empty, ByteArray.empty, ByteArray.empty⟩, prZero, false, i2, i3, b2, ByteArray.empty, false, 0, b2, ByteArray.empty, false, 0⟩), .bool true]) ?_
    refine vV (.agg (wdCells ⟨⟨C, cnZero, false, i1, b1, some ⟨g3, 0, none⟩, 1, 1, none, 0, 0, 0, ByteArray.empty, ByteArray.empty, ByteArray.empty, ByteArray.empty⟩, prZero, false, i2, i3, b2, ByteArray.empty, false, 0, b2, ByteArray.empty, false, 0⟩)) ?_
    refine vV (.bool true) ?_
    refine vW (qw32.alloc (.cells (wdCells wdZero) 43)) (.pointer (some ⟨qw32.heap.size, 0, none⟩)) ?_
    have qB35 := Blk.new qw32 (wdCells wdZero) 43
    have qg36 := (Since.refl qw32).alloc (.cells (wdCells wdZero) 43)
    replace qB2 := qB2.since qg36
    replace qB13 := qB13.since qg36
    replace qB23 := qB23.since qg36
    replace H1 := H1.since qg36
    replace H2 := H2.since qg36
    replace H3 := H3.since qg36
    replace G := G.trans qg36
    generalize qw32.alloc (.cells (wdCells wdZero) 43) = qw34 at qB2 qB13 qB23 H1 H2 H3 G qB35 qg36 ⊢
    have qB35_l := qB35.lt
    have qg36_s := qg36.size
    refine sB (wdCells ⟨⟨C, cnZero, false, i1, b1, some ⟨g3, 0, none⟩, 1, 1, none, 0, 0, 0, ByteArray.empty, ByteArray.empty, ByteArray.empty, ByteArray.empty⟩, prZero, false, i2, i3, b2, ByteArray.empty, false, 0, b2, ByteArray.empty, false, 0⟩) wd_big qB35 (wd_size _) (wd_size _) (wd_one _) ?_
    intro qw37 qt38 qB39
    clear qB35
    replace qB2 := qB2.touch qt38 (by omega)
    replace qB13 := qB13.touch qt38 (by omega)
    replace qB23 := qB23.touch qt38 (by omega)
    replace H1 := H1.touch qt38 (by omega)
    replace H2 := H2.touch qt38 (by omega)
    replace H3 := H3.touch qt38 (by omega)
    replace G := since_touch G qt38 (by omega)
    have qt38_s := qt38.size
    refine vV (.bool true) ?_
    refine vE #[.agg #[.int .u32 i0, .int .u32 i1, .int .u32 i2, .int .u32 i3],.int .i64 b1,.int .i64 b2,.pointer (some ⟨w.heap.size, 0, none⟩),U,U,.bool false,.pointer (some ⟨qw6.heap.size, 0, none⟩),.bool true,.pointer (some ⟨qw16.heap.size, 0, none⟩),.bool true,.int .i64 (1 + 8 * ((1 : Nat) : Int)),.int .i64 (1 + 8 * ((1 : Nat) : Int)),.pointer (some ⟨qw32.heap.size, 0, none⟩),.bool true,.tuple #[.agg (wdCells ⟨⟨C, cnZero, false, i1, b1, some ⟨g1, 0, none⟩, 1, 1, none, 0, 0, 0, ByteArray.empty, ByteArray.empty, ByteArray.empty, ByteArray.empty⟩, prZero, false, i2, i3, b2, ByteArray.empty, false, 0, b2, ByteArray.empty, false, 0⟩), .bool true],.agg #[.int .u32 i0, .int .u32 i1, .int .u32 i2, .int .u32 i3],.agg #[.int .u32 i0, .int .u32 i1, .int .u32 i2, .int .u32 i3],.int .i64 b1,.int .i64 b2,.tuple #[.agg (wdCells ⟨⟨C, cnZero, false, i1, b1, some ⟨g1, 0, none⟩, 1, 1, none, 0, 0, 0, ByteArray.empty, ByteArray.empty, ByteArray.empty, ByteArray.empty⟩, prZero, false, i2, i3, b2, ByteArray.empty, false, 0, b2, ByteArray.empty, false, 0⟩), .bool true],.agg (wdCells ⟨⟨C, cnZero, false, i1, b1, some ⟨g1, 0, none⟩, 1, 1, none, 0, 0, 0, ByteArray.empty, ByteArray.empty, ByteArray.empty, ByteArray.empty⟩, prZero, false, i2, i3, b2, ByteArray.empty, false, 0, b2, ByteArray.empty, false, 0⟩),.bool true,.tuple #[.agg (wdCells ⟨⟨C, cnZero, false, i1, b1, some ⟨g2, 0, none⟩, 1, 1, none, 0, 0, 0, ByteArray.empty, ByteArray.empty, ByteArray.empty, ByteArray.empty⟩, prZero, false, i2, i3, b2, ByteArray.empty, false, 0, b2, ByteArray.empty, false, 0⟩), .bool true],.agg #[.int .u32 i0, .int .u32 i1, .int .u32 i2, .int .u32 i3],.agg #[.int .u32 i0, .int .u32 i1, .int .u32 i2, .int .u32 i3],.int .i64 b1,.int .i64 b2,.tuple #[.agg (wdCells ⟨⟨C, cnZero, false, i1, b1, some ⟨g2, 0, none⟩, 1, 1, none, 0, 0, 0, ByteArray.empty, ByteArray.empty, ByteArray.empty, ByteArray.empty⟩, prZero, false, i2, i3, b2, ByteArray.empty, false, 0, b2, ByteArray.empty, false, 0⟩), .bool true],.agg (wdCells ⟨⟨C, cnZero, false, i1, b1, some ⟨g2, 0, none⟩, 1, 1, none, 0, 0, 0, ByteArray.empty, ByteArray.empty, ByteArray.empty, ByteArray.empty⟩, prZero, false, i2, i3, b2, ByteArray.empty, false, 0, b2, ByteArray.empty, false, 0⟩),.bool true,.agg (wdCells ⟨⟨C, cnZero, false, i1, b1, some ⟨g2, 0, none⟩, 1, 1, none, 0, 0, 0, ByteArray.empty, ByteArray.empty, ByteArray.empty, ByteArray.empty⟩, prZero, false, i2, i3, b2, ByteArray.empty, false, 0, b2, ByteArray.empty, false, 0⟩),.agg (wdCells ⟨⟨C, cnZero, false, i1, b1, some ⟨g1, 0, none⟩, 1, 1, none, 0, 0, 0, ByteArray.empty, ByteArray.empty, ByteArray.empty, ByteArray.empty⟩, prZero, false, i2, i3, b2, ByteArray.empty, false, 0, b2, ByteArray.empty, false, 0⟩),.bool true,.bool false,.bool false,.bool true,.bool true,.bool false,.bool false,.agg (wdCells ⟨⟨C, cnZero, false, i1, b1, some ⟨g2, 0, none⟩, 1, 1, none, 0, 0, 0, ByteArray.empty, ByteArray.empty, ByteArray.empty, ByteArray.empty⟩, prZero, false, i2, i3, b2, ByteArray.empty, false, 0, b2, ByteArray.empty, false, 0⟩),.int .i64 1,.int .i64 (1 + 8 * ((1 : Nat) : Int)),.agg (wdCells ⟨⟨C, cnZero, false, i1, b1, some ⟨g2, 0, none⟩, 1, 1, none, 0, 0, 0, ByteArray.empty, ByteArray.empty, ByteArray.empty, ByteArray.empty⟩, prZero, false, i2, i3, b2, ByteArray.empty, false, 0, b2, ByteArray.empty, false, 0⟩),.int .i64 1,.int .i64 (1 + 8 * ((1 : Nat) : Int)),.int .i64 (1 + 8 * ((1 : Nat) : Int)),.bool false,.int .i64 (1 + 8 * ((1 : Nat) : Int)),.int .i64 (1 + 8 * ((1 : Nat) : Int)),.bool false,.tuple #[.agg (wdCells ⟨⟨C, cnZero, false, i1, b1, some ⟨g3, 0, none⟩, 1, 1, none, 0, 0, 0, ByteArray.empty, ByteArray.empty, ByteArray.empty, ByteArray.empty⟩, prZero, false, i2, i3, b2, ByteArray.empty, false, 0, b2, ByteArray.empty, false, 0⟩), .bool true],.agg #[.int .u32 i0, .int .u32 i1, .int .u32 i2, .int .u32 i3],.agg #[.int .u32 i0, .int .u32 i1, .int .u32 i2, .int .u32 i3],.int .i64 b1,.int .i64 b2,.tuple #[.agg (wdCells ⟨⟨C, cnZero, false, i1, b1, some ⟨g3, 0, none⟩, 1, 1, none, 0, 0, 0, ByteArray.empty, ByteArray.empty, ByteArray.empty, ByteArray.empty⟩, prZero, false, i2, i3, b2, ByteArray.empty, false, 0, b2, ByteArray.empty, false, 0⟩), .bool true],.agg (wdCells ⟨⟨C, cnZero, false, i1, b1, some ⟨g3, 0, none⟩, 1, 1, none, 0, 0, 0, ByteArray.empty, ByteArray.empty, ByteArray.empty, ByteArray.empty⟩, prZero, false, i2, i3, b2, ByteArray.empty, false, 0, b2, ByteArray.empty, false, 0⟩),.bool true,U,U,U,U,U,U,U,U,U,U,U,U,U,U,U,U,U] ?_
    go_upto_region 14 with (fail)
    refine vR ?_
    refine vB wd_big qB39 (wd_size _) ?_
    refine vB wd_big qB13 (wd_size _) ?_
    refine vK (eqWd ⟨⟨C, cnZero, false, i1, b1, some ⟨g3, 0, none⟩, 1, 1, none, 0, 0, 0, ByteArray.empty, ByteArray.empty, ByteArray.empty, ByteArray.empty⟩, prZero, false, i2, i3, b2, ByteArray.empty, false, 0, b2, ByteArray.empty, false, 0⟩ ⟨C, cnZero, false, i1, b1, some ⟨g1, 0, none⟩, 1, 1, none, 0, 0, 0, ByteArray.empty, ByteArray.empty, ByteArray.empty, ByteArray.empty⟩ prZero _ (fun wx s => (eqPr ⟨C, cnZero, false, i1, b1, some ⟨g3, 0, none⟩, 1, 1, none, 0, 0, 0, ByteArray.empty, ByteArray.empty, ByteArray.empty, ByteArray.empty⟩ C cnZero (some ⟨g1, 0, none⟩) 1 none 0 _ (fun wy t => eq0 C hC wy) (fun wy t => eq0 cnZero ⟨rfl, rfl, rfl⟩ wy) (fun wy t => eqSegs _ _ _ _ 1 1 1 _ (by omega) wy (H3.since (s.trans t)) (H1.since (s.trans t))) (fun wy t => eqNil wy))) (fun wx s => (eqPr prZero cnZero cnZero none 0 none 0 _ (fun wx s => eq0 cnZero ⟨rfl, rfl, rfl⟩ wx) (fun wx s => eq0 cnZero ⟨rfl, rfl, rfl⟩ wx) (fun wx s => eqNil wx) (fun wx s => eqNil wx)))) ?_
    intro qw40 qg41
    replace qB2 := qB2.since qg41
    replace qB13 := qB13.since qg41
    replace qB23 := qB23.since qg41
    replace qB39 := qB39.since qg41
    replace H1 := H1.since qg41
    replace H2 := H2.since qg41
    replace H3 := H3.since qg41
    replace G := G.trans qg41
    have qg41_s := qg41.size
    refine vV (.bool false) ?_
    refine vV (.bool false) ?_
    refine vV (.bool true) ?_
    refine vV (.bool true) ?_
    refine vV (.bool false) ?_
    refine vV (.bool false) ?_
    refine vE #[.agg #[.int .u32 i0, .int .u32 i1, .int .u32 i2, .int .u32 i3],.int .i64 b1,.int .i64 b2,.pointer (some ⟨w.heap.size, 0, none⟩),U,U,.bool false,.pointer (some ⟨qw6.heap.size, 0, none⟩),.bool true,.pointer (some ⟨qw16.heap.size, 0, none⟩),.bool true,.int .i64 (1 + 8 * ((1 : Nat) : Int)),.int .i64 (1 + 8 * ((1 : Nat) : Int)),.pointer (some ⟨qw32.heap.size, 0, none⟩),.bool true,.tuple #[.agg (wdCells ⟨⟨C, cnZero, false, i1, b1, some ⟨g1, 0, none⟩, 1, 1, none, 0, 0, 0, ByteArray.empty, ByteArray.empty, ByteArray.empty, ByteArray.empty⟩, prZero, false, i2, i3, b2, ByteArray.empty, false, 0, b2, ByteArray.empty, false, 0⟩), .bool true],.agg #[.int .u32 i0, .int .u32 i1, .int .u32 i2, .int .u32 i3],.agg #[.int .u32 i0, .int .u32 i1, .int .u32 i2, .int .u32 i3],.int .i64 b1,.int .i64 b2,.tuple #[.agg (wdCells ⟨⟨C, cnZero, false, i1, b1, some ⟨g1, 0, none⟩, 1, 1, none, 0, 0, 0, ByteArray.empty, ByteArray.empty, ByteArray.empty, ByteArray.empty⟩, prZero, false, i2, i3, b2, ByteArray.empty, false, 0, b2, ByteArray.empty, false, 0⟩), .bool true],.agg (wdCells ⟨⟨C, cnZero, false, i1, b1, some ⟨g1, 0, none⟩, 1, 1, none, 0, 0, 0, ByteArray.empty, ByteArray.empty, ByteArray.empty, ByteArray.empty⟩, prZero, false, i2, i3, b2, ByteArray.empty, false, 0, b2, ByteArray.empty, false, 0⟩),.bool true,.tuple #[.agg (wdCells ⟨⟨C, cnZero, false, i1, b1, some ⟨g2, 0, none⟩, 1, 1, none, 0, 0, 0, ByteArray.empty, ByteArray.empty, ByteArray.empty, ByteArray.empty⟩, prZero, false, i2, i3, b2, ByteArray.empty, false, 0, b2, ByteArray.empty, false, 0⟩), .bool true],.agg #[.int .u32 i0, .int .u32 i1, .int .u32 i2, .int .u32 i3],.agg #[.int .u32 i0, .int .u32 i1, .int .u32 i2, .int .u32 i3],.int .i64 b1,.int .i64 b2,.tuple #[.agg (wdCells ⟨⟨C, cnZero, false, i1, b1, some ⟨g2, 0, none⟩, 1, 1, none, 0, 0, 0, ByteArray.empty, ByteArray.empty, ByteArray.empty, ByteArray.empty⟩, prZero, false, i2, i3, b2, ByteArray.empty, false, 0, b2, ByteArray.empty, false, 0⟩), .bool true],.agg (wdCells ⟨⟨C, cnZero, false, i1, b1, some ⟨g2, 0, none⟩, 1, 1, none, 0, 0, 0, ByteArray.empty, ByteArray.empty, ByteArray.empty, ByteArray.empty⟩, prZero, false, i2, i3, b2, ByteArray.empty, false, 0, b2, ByteArray.empty, false, 0⟩),.bool true,.agg (wdCells ⟨⟨C, cnZero, false, i1, b1, some ⟨g2, 0, none⟩, 1, 1, none, 0, 0, 0, ByteArray.empty, ByteArray.empty, ByteArray.empty, ByteArray.empty⟩, prZero, false, i2, i3, b2, ByteArray.empty, false, 0, b2, ByteArray.empty, false, 0⟩),.agg (wdCells ⟨⟨C, cnZero, false, i1, b1, some ⟨g1, 0, none⟩, 1, 1, none, 0, 0, 0, ByteArray.empty, ByteArray.empty, ByteArray.empty, ByteArray.empty⟩, prZero, false, i2, i3, b2, ByteArray.empty, false, 0, b2, ByteArray.empty, false, 0⟩),.bool true,.bool false,.bool false,.bool true,.bool true,.bool false,.bool false,.agg (wdCells ⟨⟨C, cnZero, false, i1, b1, some ⟨g2, 0, none⟩, 1, 1, none, 0, 0, 0, ByteArray.empty, ByteArray.empty, ByteArray.empty, ByteArray.empty⟩, prZero, false, i2, i3, b2, ByteArray.empty, false, 0, b2, ByteArray.empty, false, 0⟩),.int .i64 1,.int .i64 (1 + 8 * ((1 : Nat) : Int)),.agg (wdCells ⟨⟨C, cnZero, false, i1, b1, some ⟨g2, 0, none⟩, 1, 1, none, 0, 0, 0, ByteArray.empty, ByteArray.empty, ByteArray.empty, ByteArray.empty⟩, prZero, false, i2, i3, b2, ByteArray.empty, false, 0, b2, ByteArray.empty, false, 0⟩),.int .i64 1,.int .i64 (1 + 8 * ((1 : Nat) : Int)),.int .i64 (1 + 8 * ((1 : Nat) : Int)),.bool false,.int .i64 (1 + 8 * ((1 : Nat) : Int)),.int .i64 (1 + 8 * ((1 : Nat) : Int)),.bool false,.tuple #[.agg (wdCells ⟨⟨C, cnZero, false, i1, b1, some ⟨g3, 0, none⟩, 1, 1, none, 0, 0, 0, ByteArray.empty, ByteArray.empty, ByteArray.empty, ByteArray.empty⟩, prZero, false, i2, i3, b2, ByteArray.empty, false, 0, b2, ByteArray.empty, false, 0⟩), .bool true],.agg #[.int .u32 i0, .int .u32 i1, .int .u32 i2, .int .u32 i3],.agg #[.int .u32 i0, .int .u32 i1, .int .u32 i2, .int .u32 i3],.int .i64 b1,.int .i64 b2,.tuple #[.agg (wdCells ⟨⟨C, cnZero, false, i1, b1, some ⟨g3, 0, none⟩, 1, 1, none, 0, 0, 0, ByteArray.empty, ByteArray.empty, ByteArray.empty, ByteArray.empty⟩, prZero, false, i2, i3, b2, ByteArray.empty, false, 0, b2, ByteArray.empty, false, 0⟩), .bool true],.agg (wdCells ⟨⟨C, cnZero, false, i1, b1, some ⟨g3, 0, none⟩, 1, 1, none, 0, 0, 0, ByteArray.empty, ByteArray.empty, ByteArray.empty, ByteArray.empty⟩, prZero, false, i2, i3, b2, ByteArray.empty, false, 0, b2, ByteArray.empty, false, 0⟩),.bool true,.agg (wdCells ⟨⟨C, cnZero, false, i1, b1, some ⟨g3, 0, none⟩, 1, 1, none, 0, 0, 0, ByteArray.empty, ByteArray.empty, ByteArray.empty, ByteArray.empty⟩, prZero, false, i2, i3, b2, ByteArray.empty, false, 0, b2, ByteArray.empty, false, 0⟩),.agg (wdCells ⟨⟨C, cnZero, false, i1, b1, some ⟨g1, 0, none⟩, 1, 1, none, 0, 0, 0, ByteArray.empty, ByteArray.empty, ByteArray.empty, ByteArray.empty⟩, prZero, false, i2, i3, b2, ByteArray.empty, false, 0, b2, ByteArray.empty, false, 0⟩),.bool true,.bool false,.bool false,.bool true,.bool true,.bool false,.bool false,U,U,U,U,U,U,U,U] ?_
    go_upto_region 17 with (fail)
    refine vR ?_
    refine vB wd_big qB23 (wd_size _) ?_
    refine vV (.int .i64 1) ?_
    refine vK (heldWd C hC i1 b1 i2 i3 b2 _ g2 _ _ H2 hM) ?_
    intro qw42 qg43
    replace qB2 := qB2.since qg43
    replace qB13 := qB13.since qg43
    replace qB23 := qB23.since qg43
    replace qB39 := qB39.since qg43
    replace H1 := H1.since qg43
    replace H2 := H2.since qg43
    replace H3 := H3.since qg43
    replace G := G.trans qg43
    have qg43_s := qg43.size
    refine vV (.int .i64 (1 + 8 * ((1 : Nat) : Int))) ?_
    refine vE #[.agg #[.int .u32 i0, .int .u32 i1, .int .u32 i2, .int .u32 i3],.int .i64 b1,.int .i64 b2,.pointer (some ⟨w.heap.size, 0, none⟩),U,U,.bool false,.pointer (some ⟨qw6.heap.size, 0, none⟩),.bool true,.pointer (some ⟨qw16.heap.size, 0, none⟩),.bool true,.int .i64 (1 + 8 * ((1 : Nat) : Int)),.int .i64 (1 + 8 * ((1 : Nat) : Int)),.pointer (some ⟨qw32.heap.size, 0, none⟩),.bool true,.tuple #[.agg (wdCells ⟨⟨C, cnZero, false, i1, b1, some ⟨g1, 0, none⟩, 1, 1, none, 0, 0, 0, ByteArray.empty, ByteArray.empty, ByteArray.empty, ByteArray.empty⟩, prZero, false, i2, i3, b2, ByteArray.empty, false, 0, b2, ByteArray.empty, false, 0⟩), .bool true],.agg #[.int .u32 i0, .int .u32 i1, .int .u32 i2, .int .u32 i3],.agg #[.int .u32 i0, .int .u32 i1, .int .u32 i2, .int .u32 i3],.int .i64 b1,.int .i64 b2,.tuple #[.agg (wdCells ⟨⟨C, cnZero, false, i1, b1, some ⟨g1, 0, none⟩, 1, 1, none, 0, 0, 0, ByteArray.empty, ByteArray.empty, ByteArray.empty, ByteArray.empty⟩, prZero, false, i2, i3, b2, ByteArray.empty, false, 0, b2, ByteArray.empty, false, 0⟩), .bool true],.agg (wdCells ⟨⟨C, cnZero, false, i1, b1, some ⟨g1, 0, none⟩, 1, 1, none, 0, 0, 0, ByteArray.empty, ByteArray.empty, ByteArray.empty, ByteArray.empty⟩, prZero, false, i2, i3, b2, ByteArray.empty, false, 0, b2, ByteArray.empty, false, 0⟩),.bool true,.tuple #[.agg (wdCells ⟨⟨C, cnZero, false, i1, b1, some ⟨g2, 0, none⟩, 1, 1, none, 0, 0, 0, ByteArray.empty, ByteArray.empty, ByteArray.empty, ByteArray.empty⟩, prZero, false, i2, i3, b2, ByteArray.empty, false, 0, b2, ByteArray.empty, false, 0⟩), .bool true],.agg #[.int .u32 i0, .int .u32 i1, .int .u32 i2, .int .u32 i3],.agg #[.int .u32 i0, .int .u32 i1, .int .u32 i2, .int .u32 i3],.int .i64 b1,.int .i64 b2,.tuple #[.agg (wdCells ⟨⟨C, cnZero, false, i1, b1, some ⟨g2, 0, none⟩, 1, 1, none, 0, 0, 0, ByteArray.empty, ByteArray.empty, ByteArray.empty, ByteArray.empty⟩, prZero, false, i2, i3, b2, ByteArray.empty, false, 0, b2, ByteArray.empty, false, 0⟩), .bool true],.agg (wdCells ⟨⟨C, cnZero, false, i1, b1, some ⟨g2, 0, none⟩, 1, 1, none, 0, 0, 0, ByteArray.empty, ByteArray.empty, ByteArray.empty, ByteArray.empty⟩, prZero, false, i2, i3, b2, ByteArray.empty, false, 0, b2, ByteArray.empty, false, 0⟩),.bool true,.agg (wdCells ⟨⟨C, cnZero, false, i1, b1, some ⟨g2, 0, none⟩, 1, 1, none, 0, 0, 0, ByteArray.empty, ByteArray.empty, ByteArray.empty, ByteArray.empty⟩, prZero, false, i2, i3, b2, ByteArray.empty, false, 0, b2, ByteArray.empty, false, 0⟩),.agg (wdCells ⟨⟨C, cnZero, false, i1, b1, some ⟨g1, 0, none⟩, 1, 1, none, 0, 0, 0, ByteArray.empty, ByteArray.empty, ByteArray.empty, ByteArray.empty⟩, prZero, false, i2, i3, b2, ByteArray.empty, false, 0, b2, ByteArray.empty, false, 0⟩),.bool true,.bool false,.bool false,.bool true,.bool true,.bool false,.bool false,.agg (wdCells ⟨⟨C, cnZero, false, i1, b1, some ⟨g2, 0, none⟩, 1, 1, none, 0, 0, 0, ByteArray.empty, ByteArray.empty, ByteArray.empty, ByteArray.empty⟩, prZero, false, i2, i3, b2, ByteArray.empty, false, 0, b2, ByteArray.empty, false, 0⟩),.int .i64 1,.int .i64 (1 + 8 * ((1 : Nat) : Int)),.agg (wdCells ⟨⟨C, cnZero, false, i1, b1, some ⟨g2, 0, none⟩, 1, 1, none, 0, 0, 0, ByteArray.empty, ByteArray.empty, ByteArray.empty, ByteArray.empty⟩, prZero, false, i2, i3, b2, ByteArray.empty, false, 0, b2, ByteArray.empty, false, 0⟩),.int .i64 1,.int .i64 (1 + 8 * ((1 : Nat) : Int)),.int .i64 (1 + 8 * ((1 : Nat) : Int)),.bool false,.int .i64 (1 + 8 * ((1 : Nat) : Int)),.int .i64 (1 + 8 * ((1 : Nat) : Int)),.bool false,.tuple #[.agg (wdCells ⟨⟨C, cnZero, false, i1, b1, some ⟨g3, 0, none⟩, 1, 1, none, 0, 0, 0, ByteArray.empty, ByteArray.empty, ByteArray.empty, ByteArray.empty⟩, prZero, false, i2, i3, b2, ByteArray.empty, false, 0, b2, ByteArray.empty, false, 0⟩), .bool true],.agg #[.int .u32 i0, .int .u32 i1, .int .u32 i2, .int .u32 i3],.agg #[.int .u32 i0, .int .u32 i1, .int .u32 i2, .int .u32 i3],.int .i64 b1,.int .i64 b2,.tuple #[.agg (wdCells ⟨⟨C, cnZero, false, i1, b1, some ⟨g3, 0, none⟩, 1, 1, none, 0, 0, 0, ByteArray.empty, ByteArray.empty, ByteArray.empty, ByteArray.empty⟩, prZero, false, i2, i3, b2, ByteArray.empty, false, 0, b2, ByteArray.empty, false, 0⟩), .bool true],.agg (wdCells ⟨⟨C, cnZero, false, i1, b1, some ⟨g3, 0, none⟩, 1, 1, none, 0, 0, 0, ByteArray.empty, ByteArray.empty, ByteArray.empty, ByteArray.empty⟩, prZero, false, i2, i3, b2, ByteArray.empty, false, 0, b2, ByteArray.empty, false, 0⟩),.bool true,.agg (wdCells ⟨⟨C, cnZero, false, i1, b1, some ⟨g3, 0, none⟩, 1, 1, none, 0, 0, 0, ByteArray.empty, ByteArray.empty, ByteArray.empty, ByteArray.empty⟩, prZero, false, i2, i3, b2, ByteArray.empty, false, 0, b2, ByteArray.empty, false, 0⟩),.agg (wdCells ⟨⟨C, cnZero, false, i1, b1, some ⟨g1, 0, none⟩, 1, 1, none, 0, 0, 0, ByteArray.empty, ByteArray.empty, ByteArray.empty, ByteArray.empty⟩, prZero, false, i2, i3, b2, ByteArray.empty, false, 0, b2, ByteArray.empty, false, 0⟩),.bool true,.bool false,.bool false,.bool true,.bool true,.bool false,.bool false,.agg (wdCells ⟨⟨C, cnZero, false, i1, b1, some ⟨g2, 0, none⟩, 1, 1, none, 0, 0, 0, ByteArray.empty, ByteArray.empty, ByteArray.empty, ByteArray.empty⟩, prZero, false, i2, i3, b2, ByteArray.empty, false, 0, b2, ByteArray.empty, false, 0⟩),.int .i64 1,.int .i64 (1 + 8 * ((1 : Nat) : Int)),U,U,U,U,U] ?_
    go_wp2_with (fail)
    go_ret
    exact ⟨rfl, G⟩
  case neg =>
    have ht := fun wx => toA4 i0 i1 i2 i3 wx
    have hs := fun wx => specWStartN i0 i1 i2 i3 b1 b2 (isWord_wf x00) hr wx
    have hi := fun wx => implWStartN i0 i1 i2 i3 b1 b2 (isWord_wf x00) hr wx
    have G := Since.refl w
    go_enter Try.func3, Try.ntmps3
    go_upto_region 0 with (fail)
    refine vR ?_
    refine vW (w.alloc (.cells #[.int .u32 i0, .int .u32 i1, .int .u32 i2, .int .u32 i3] 23)) (.pointer (some ⟨w.heap.size, 0, none⟩)) ?_
    have qB2 := Blk.new w #[.int .u32 i0, .int .u32 i1, .int .u32 i2, .int .u32 i3] 23
    have qg3 := (Since.refl w).alloc (.cells #[.int .u32 i0, .int .u32 i1, .int .u32 i2, .int .u32 i3] 23)
    replace G := G.trans qg3
    generalize w.alloc (.cells #[.int .u32 i0, .int .u32 i1, .int .u32 i2, .int .u32 i3] 23) = qw1 at  G qB2 qg3 ⊢
    have qB2_l := qB2.lt
    have qg3_s := qg3.size
    refine vV (.bool false) ?_
    refine vE #[.agg #[.int .u32 i0, .int .u32 i1, .int .u32 i2, .int .u32 i3],.int .i64 b1,.int .i64 b2,.pointer (some ⟨w.heap.size, 0, none⟩),U,U,.bool false,U,U,U,U,U,U,U,U,U,U,U,U,U,U,U,U,U,U,U,U,U,U,U,U,U,U,U,U,U,U,U,U,U,U,U,U,U,U,U,U,U,U,U,U,U,U,U,U,U,U,U,U,U,U,U,U,U,U,U,U,U,U,U,U,U,U,U,U,U] ?_
    go_upto_region 1 with (fail)
    refine vR ?_
    refine vB a4_big qB2 rfl ?_
    refine vK (ht _) ?_
    intro qw4 qg5
    replace qB2 := qB2.since qg5
    replace G := G.trans qg5
    have qg5_s := qg5.size
    refine vV (.int .i64 b1) ?_
    refine vV (.int .i64 b2) ?_
    refine vK (hs _) ?_
    intro qw6 qg7
    replace qB2 := qB2.since qg7
    replace G := G.trans qg7
    have qg7_s := qg7.size
    refine vV (.tuple #[.agg (wdCells wdZero), .bool false]) ?_
    refine vV (.agg (wdCells wdZero)) ?_
    refine vV (.bool false) ?_
    refine vW (qw6.alloc (.cells (wdCells wdZero) 43)) (.pointer (some ⟨qw6.heap.size, 0, none⟩)) ?_
    have qB9 := Blk.new qw6 (wdCells wdZero) 43
    have qg10 := (Since.refl qw6).alloc (.cells (wdCells wdZero) 43)
    replace qB2 := qB2.since qg10
    replace G := G.trans qg10
    generalize qw6.alloc (.cells (wdCells wdZero) 43) = qw8 at qB2 G qB9 qg10 ⊢
    have qB9_l := qB9.lt
    have qg10_s := qg10.size
    refine sB (wdCells wdZero) wd_big qB9 (wd_size _) (wd_size _) (wd_one _) ?_
    intro qw11 qt12 qB13
    clear qB9
    replace qB2 := qB2.touch qt12 (by omega)
    replace G := since_touch G qt12 (by omega)
    have qt12_s := qt12.size
    refine vV (.bool false) ?_
    refine vE #[.agg #[.int .u32 i0, .int .u32 i1, .int .u32 i2, .int .u32 i3],.int .i64 b1,.int .i64 b2,.pointer (some ⟨w.heap.size, 0, none⟩),U,U,.bool false,.pointer (some ⟨qw6.heap.size, 0, none⟩),.bool false,U,U,U,U,U,U,.tuple #[.agg (wdCells wdZero), .bool false],.agg #[.int .u32 i0, .int .u32 i1, .int .u32 i2, .int .u32 i3],.agg #[.int .u32 i0, .int .u32 i1, .int .u32 i2, .int .u32 i3],.int .i64 b1,.int .i64 b2,.tuple #[.agg (wdCells wdZero), .bool false],.agg (wdCells wdZero),.bool false,U,U,U,U,U,U,U,U,U,U,U,U,U,U,U,U,U,U,U,U,U,U,U,U,U,U,U,U,U,U,U,U,U,U,U,U,U,U,U,U,U,U,U,U,U,U,U,U,U,U,U,U,U] ?_
    go_upto_region 2 with (fail)
    refine vR ?_
    refine vB a4_big qB2 rfl ?_
    refine vK (ht _) ?_
    intro qw14 qg15
    replace qB2 := qB2.since qg15
    replace qB13 := qB13.since qg15
    replace G := G.trans qg15
    have qg15_s := qg15.size
    refine vV (.int .i64 b1) ?_
    refine vV (.int .i64 b2) ?_
    refine vK (hi _) ?_
    intro qw16 qg17
    replace qB2 := qB2.since qg17
    replace qB13 := qB13.since qg17
    replace G := G.trans qg17
    have qg17_s := qg17.size
    refine vV (.tuple #[.agg (wdCells wdZero), .bool false]) ?_
    refine vV (.agg (wdCells wdZero)) ?_
    refine vV (.bool false) ?_
    refine vW (qw16.alloc (.cells (wdCells wdZero) 43)) (.pointer (some ⟨qw16.heap.size, 0, none⟩)) ?_
    have qB19 := Blk.new qw16 (wdCells wdZero) 43
    have qg20 := (Since.refl qw16).alloc (.cells (wdCells wdZero) 43)
    replace qB2 := qB2.since qg20
    replace qB13 := qB13.since qg20
    replace G := G.trans qg20
    generalize qw16.alloc (.cells (wdCells wdZero) 43) = qw18 at qB2 qB13 G qB19 qg20 ⊢
    have qB19_l := qB19.lt
    have qg20_s := qg20.size
    refine sB (wdCells wdZero) wd_big qB19 (wd_size _) (wd_size _) (wd_one _) ?_
    intro qw21 qt22 qB23
    clear qB19
    replace qB2 := qB2.touch qt22 (by omega)
    replace qB13 := qB13.touch qt22 (by omega)
    replace G := since_touch G qt22 (by omega)
    have qt22_s := qt22.size
    refine vV (.bool false) ?_
    refine vE #[.agg #[.int .u32 i0, .int .u32 i1, .int .u32 i2, .int .u32 i3],.int .i64 b1,.int .i64 b2,.pointer (some ⟨w.heap.size, 0, none⟩),U,U,.bool false,.pointer (some ⟨qw6.heap.size, 0, none⟩),.bool false,.pointer (some ⟨qw16.heap.size, 0, none⟩),.bool false,U,U,U,U,.tuple #[.agg (wdCells wdZero), .bool false],.agg #[.int .u32 i0, .int .u32 i1, .int .u32 i2, .int .u32 i3],.agg #[.int .u32 i0, .int .u32 i1, .int .u32 i2, .int .u32 i3],.int .i64 b1,.int .i64 b2,.tuple #[.agg (wdCells wdZero), .bool false],.agg (wdCells wdZero),.bool false,.tuple #[.agg (wdCells wdZero), .bool false],.agg #[.int .u32 i0, .int .u32 i1, .int .u32 i2, .int .u32 i3],.agg #[.int .u32 i0, .int .u32 i1, .int .u32 i2, .int .u32 i3],.int .i64 b1,.int .i64 b2,.tuple #[.agg (wdCells wdZero), .bool false],.agg (wdCells wdZero),.bool false,U,U,U,U,U,U,U,U,U,U,U,U,U,U,U,U,U,U,U,U,U,U,U,U,U,U,U,U,U,U,U,U,U,U,U,U,U,U,U,U,U,U,U,U,U] ?_
    go_upto_region 3 with (fail)
    refine vR ?_
    refine vB wd_big qB23 (wd_size _) ?_
    refine vB wd_big qB13 (wd_size _) ?_
    refine vK (eqWd wdZero prZero prZero _ (fun wx s => (eqPr prZero cnZero cnZero none 0 none 0 _ (fun wx s => eq0 cnZero ⟨rfl, rfl, rfl⟩ wx) (fun wx s => eq0 cnZero ⟨rfl, rfl, rfl⟩ wx) (fun wx s => eqNil wx) (fun wx s => eqNil wx))) (fun wx s => (eqPr prZero cnZero cnZero none 0 none 0 _ (fun wx s => eq0 cnZero ⟨rfl, rfl, rfl⟩ wx) (fun wx s => eq0 cnZero ⟨rfl, rfl, rfl⟩ wx) (fun wx s => eqNil wx) (fun wx s => eqNil wx)))) ?_
    intro qw24 qg25
    replace qB2 := qB2.since qg25
    replace qB13 := qB13.since qg25
    replace qB23 := qB23.since qg25
    replace G := G.trans qg25
    have qg25_s := qg25.size
    refine vV (.bool false) ?_
    refine vV (.bool false) ?_
    refine vV (.bool false) ?_
    refine vV (.bool false) ?_
    refine vV (.bool false) ?_
    refine vV (.bool false) ?_
    refine vE #[.agg #[.int .u32 i0, .int .u32 i1, .int .u32 i2, .int .u32 i3],.int .i64 b1,.int .i64 b2,.pointer (some ⟨w.heap.size, 0, none⟩),U,U,.bool false,.pointer (some ⟨qw6.heap.size, 0, none⟩),.bool false,.pointer (some ⟨qw16.heap.size, 0, none⟩),.bool false,U,U,U,U,.tuple #[.agg (wdCells wdZero), .bool false],.agg #[.int .u32 i0, .int .u32 i1, .int .u32 i2, .int .u32 i3],.agg #[.int .u32 i0, .int .u32 i1, .int .u32 i2, .int .u32 i3],.int .i64 b1,.int .i64 b2,.tuple #[.agg (wdCells wdZero), .bool false],.agg (wdCells wdZero),.bool false,.tuple #[.agg (wdCells wdZero), .bool false],.agg #[.int .u32 i0, .int .u32 i1, .int .u32 i2, .int .u32 i3],.agg #[.int .u32 i0, .int .u32 i1, .int .u32 i2, .int .u32 i3],.int .i64 b1,.int .i64 b2,.tuple #[.agg (wdCells wdZero), .bool false],.agg (wdCells wdZero),.bool false,.agg (wdCells wdZero),.agg (wdCells wdZero),.bool true,.bool false,.bool false,.bool false,.bool false,.bool false,.bool false,U,U,U,U,U,U,U,U,U,U,U,U,U,U,U,U,U,U,U,U,U,U,U,U,U,U,U,U,U,U,U,U,U,U,U,U] ?_
    go_upto_region 6 with (fail)
    refine vR ?_
    refine vB wd_big qB23 (wd_size _) ?_
    refine vV (.int .i64 1) ?_
    refine vK (markWdN _) ?_
    intro qw26 qg27
    replace qB2 := qB2.since qg27
    replace qB13 := qB13.since qg27
    replace qB23 := qB23.since qg27
    replace G := G.trans qg27
    have qg27_s := qg27.size
    refine vV (.int .i64 1) ?_
    refine vE #[.agg #[.int .u32 i0, .int .u32 i1, .int .u32 i2, .int .u32 i3],.int .i64 b1,.int .i64 b2,.pointer (some ⟨w.heap.size, 0, none⟩),U,U,.bool false,.pointer (some ⟨qw6.heap.size, 0, none⟩),.bool false,.pointer (some ⟨qw16.heap.size, 0, none⟩),.bool false,.int .i64 1,U,U,U,.tuple #[.agg (wdCells wdZero), .bool false],.agg #[.int .u32 i0, .int .u32 i1, .int .u32 i2, .int .u32 i3],.agg #[.int .u32 i0, .int .u32 i1, .int .u32 i2, .int .u32 i3],.int .i64 b1,.int .i64 b2,.tuple #[.agg (wdCells wdZero), .bool false],.agg (wdCells wdZero),.bool false,.tuple #[.agg (wdCells wdZero), .bool false],.agg #[.int .u32 i0, .int .u32 i1, .int .u32 i2, .int .u32 i3],.agg #[.int .u32 i0, .int .u32 i1, .int .u32 i2, .int .u32 i3],.int .i64 b1,.int .i64 b2,.tuple #[.agg (wdCells wdZero), .bool false],.agg (wdCells wdZero),.bool false,.agg (wdCells wdZero),.agg (wdCells wdZero),.bool true,.bool false,.bool false,.bool false,.bool false,.bool false,.bool false,.agg (wdCells wdZero),.int .i64 1,.int .i64 1,U,U,U,U,U,U,U,U,U,U,U,U,U,U,U,U,U,U,U,U,U,U,U,U,U,U,U,U,U,U,U,U,U] ?_
    go_upto_region 8 with (fail)
    refine vR ?_
    refine vB wd_big qB23 (wd_size _) ?_
    refine vV (.int .i64 1) ?_
    refine vK (heldWdN _) ?_
    intro qw28 qg29
    replace qB2 := qB2.since qg29
    replace qB13 := qB13.since qg29
    replace qB23 := qB23.since qg29
    replace G := G.trans qg29
    have qg29_s := qg29.size
    refine vV (.int .i64 1) ?_
    refine vE #[.agg #[.int .u32 i0, .int .u32 i1, .int .u32 i2, .int .u32 i3],.int .i64 b1,.int .i64 b2,.pointer (some ⟨w.heap.size, 0, none⟩),U,U,.bool false,.pointer (some ⟨qw6.heap.size, 0, none⟩),.bool false,.pointer (some ⟨qw16.heap.size, 0, none⟩),.bool false,.int .i64 1,.int .i64 1,U,U,.tuple #[.agg (wdCells wdZero), .bool false],.agg #[.int .u32 i0, .int .u32 i1, .int .u32 i2, .int .u32 i3],.agg #[.int .u32 i0, .int .u32 i1, .int .u32 i2, .int .u32 i3],.int .i64 b1,.int .i64 b2,.tuple #[.agg (wdCells wdZero), .bool false],.agg (wdCells wdZero),.bool false,.tuple #[.agg (wdCells wdZero), .bool false],.agg #[.int .u32 i0, .int .u32 i1, .int .u32 i2, .int .u32 i3],.agg #[.int .u32 i0, .int .u32 i1, .int .u32 i2, .int .u32 i3],.int .i64 b1,.int .i64 b2,.tuple #[.agg (wdCells wdZero), .bool false],.agg (wdCells wdZero),.bool false,.agg (wdCells wdZero),.agg (wdCells wdZero),.bool true,.bool false,.bool false,.bool false,.bool false,.bool false,.bool false,.agg (wdCells wdZero),.int .i64 1,.int .i64 1,.agg (wdCells wdZero),.int .i64 1,.int .i64 1,U,U,U,U,U,U,U,U,U,U,U,U,U,U,U,U,U,U,U,U,U,U,U,U,U,U,U,U,U,U] ?_
    go_upto_region 13 with (fail)
    refine vR ?_
    refine vB a4_big qB2 rfl ?_
    refine vK (ht _) ?_
    intro qw30 qg31
    replace qB2 := qB2.since qg31
    replace qB13 := qB13.since qg31
    replace qB23 := qB23.since qg31
    replace G := G.trans qg31
    have qg31_s := qg31.size
    refine vV (.int .i64 b1) ?_
    refine vV (.int .i64 b2) ?_
    refine vK (hi _) ?_
    intro qw32 qg33
    replace qB2 := qB2.since qg33
    replace qB13 := qB13.since qg33
    replace qB23 := qB23.since qg33
    replace G := G.trans qg33
    have qg33_s := qg33.size
    refine vV (.tuple #[.agg (wdCells wdZero), .bool false]) ?_
    refine vV (.agg (wdCells wdZero)) ?_
    refine vV (.bool false) ?_
    refine vW (qw32.alloc (.cells (wdCells wdZero) 43)) (.pointer (some ⟨qw32.heap.size, 0, none⟩)) ?_
    have qB35 := Blk.new qw32 (wdCells wdZero) 43
    have qg36 := (Since.refl qw32).alloc (.cells (wdCells wdZero) 43)
    replace qB2 := qB2.since qg36
    replace qB13 := qB13.since qg36
    replace qB23 := qB23.since qg36
    replace G := G.trans qg36
    generalize qw32.alloc (.cells (wdCells wdZero) 43) = qw34 at qB2 qB13 qB23 G qB35 qg36 ⊢
    have qB35_l := qB35.lt
    have qg36_s := qg36.size
    refine sB (wdCells wdZero) wd_big qB35 (wd_size _) (wd_size _) (wd_one _) ?_
    intro qw37 qt38 qB39
    clear qB35
    replace qB2 := qB2.touch qt38 (by omega)
    replace qB13 := qB13.touch qt38 (by omega)
    replace qB23 := qB23.touch qt38 (by omega)
    replace G := since_touch G qt38 (by omega)
    have qt38_s := qt38.size
    refine vV (.bool false) ?_
    refine vE #[.agg #[.int .u32 i0, .int .u32 i1, .int .u32 i2, .int .u32 i3],.int .i64 b1,.int .i64 b2,.pointer (some ⟨w.heap.size, 0, none⟩),U,U,.bool false,.pointer (some ⟨qw6.heap.size, 0, none⟩),.bool false,.pointer (some ⟨qw16.heap.size, 0, none⟩),.bool false,.int .i64 1,.int .i64 1,.pointer (some ⟨qw32.heap.size, 0, none⟩),.bool false,.tuple #[.agg (wdCells wdZero), .bool false],.agg #[.int .u32 i0, .int .u32 i1, .int .u32 i2, .int .u32 i3],.agg #[.int .u32 i0, .int .u32 i1, .int .u32 i2, .int .u32 i3],.int .i64 b1,.int .i64 b2,.tuple #[.agg (wdCells wdZero), .bool false],.agg (wdCells wdZero),.bool false,.tuple #[.agg (wdCells wdZero), .bool false],.agg #[.int .u32 i0, .int .u32 i1, .int .u32 i2, .int .u32 i3],.agg #[.int .u32 i0, .int .u32 i1, .int .u32 i2, .int .u32 i3],.int .i64 b1,.int .i64 b2,.tuple #[.agg (wdCells wdZero), .bool false],.agg (wdCells wdZero),.bool false,.agg (wdCells wdZero),.agg (wdCells wdZero),.bool true,.bool false,.bool false,.bool false,.bool false,.bool false,.bool false,.agg (wdCells wdZero),.int .i64 1,.int .i64 1,.agg (wdCells wdZero),.int .i64 1,.int .i64 1,.int .i64 1,.bool false,.int .i64 1,.int .i64 1,.bool false,.tuple #[.agg (wdCells wdZero), .bool false],.agg #[.int .u32 i0, .int .u32 i1, .int .u32 i2, .int .u32 i3],.agg #[.int .u32 i0, .int .u32 i1, .int .u32 i2, .int .u32 i3],.int .i64 b1,.int .i64 b2,.tuple #[.agg (wdCells wdZero), .bool false],.agg (wdCells wdZero),.bool false,U,U,U,U,U,U,U,U,U,U,U,U,U,U,U,U,U] ?_
    go_upto_region 14 with (fail)
    refine vR ?_
    refine vB wd_big qB39 (wd_size _) ?_
    refine vB wd_big qB13 (wd_size _) ?_
    refine vK (eqWd wdZero prZero prZero _ (fun wx s => (eqPr prZero cnZero cnZero none 0 none 0 _ (fun wx s => eq0 cnZero ⟨rfl, rfl, rfl⟩ wx) (fun wx s => eq0 cnZero ⟨rfl, rfl, rfl⟩ wx) (fun wx s => eqNil wx) (fun wx s => eqNil wx))) (fun wx s => (eqPr prZero cnZero cnZero none 0 none 0 _ (fun wx s => eq0 cnZero ⟨rfl, rfl, rfl⟩ wx) (fun wx s => eq0 cnZero ⟨rfl, rfl, rfl⟩ wx) (fun wx s => eqNil wx) (fun wx s => eqNil wx)))) ?_
    intro qw40 qg41
    replace qB2 := qB2.since qg41
    replace qB13 := qB13.since qg41
    replace qB23 := qB23.since qg41
    replace qB39 := qB39.since qg41
    replace G := G.trans qg41
    have qg41_s := qg41.size
    refine vV (.bool false) ?_
    refine vV (.bool false) ?_
    refine vV (.bool false) ?_
    refine vV (.bool false) ?_
    refine vV (.bool false) ?_
    refine vV (.bool false) ?_
    refine vE #[.agg #[.int .u32 i0, .int .u32 i1, .int .u32 i2, .int .u32 i3],.int .i64 b1,.int .i64 b2,.pointer (some ⟨w.heap.size, 0, none⟩),U,U,.bool false,.pointer (some ⟨qw6.heap.size, 0, none⟩),.bool false,.pointer (some ⟨qw16.heap.size, 0, none⟩),.bool false,.int .i64 1,.int .i64 1,.pointer (some ⟨qw32.heap.size, 0, none⟩),.bool false,.tuple #[.agg (wdCells wdZero), .bool false],.agg #[.int .u32 i0, .int .u32 i1, .int .u32 i2, .int .u32 i3],.agg #[.int .u32 i0, .int .u32 i1, .int .u32 i2, .int .u32 i3],.int .i64 b1,.int .i64 b2,.tuple #[.agg (wdCells wdZero), .bool false],.agg (wdCells wdZero),.bool false,.tuple #[.agg (wdCells wdZero), .bool false],.agg #[.int .u32 i0, .int .u32 i1, .int .u32 i2, .int .u32 i3],.agg #[.int .u32 i0, .int .u32 i1, .int .u32 i2, .int .u32 i3],.int .i64 b1,.int .i64 b2,.tuple #[.agg (wdCells wdZero), .bool false],.agg (wdCells wdZero),.bool false,.agg (wdCells wdZero),.agg (wdCells wdZero),.bool true,.bool false,.bool false,.bool false,.bool false,.bool false,.bool false,.agg (wdCells wdZero),.int .i64 1,.int .i64 1,.agg (wdCells wdZero),.int .i64 1,.int .i64 1,.int .i64 1,.bool false,.int .i64 1,.int .i64 1,.bool false,.tuple #[.agg (wdCells wdZero), .bool false],.agg #[.int .u32 i0, .int .u32 i1, .int .u32 i2, .int .u32 i3],.agg #[.int .u32 i0, .int .u32 i1, .int .u32 i2, .int .u32 i3],.int .i64 b1,.int .i64 b2,.tuple #[.agg (wdCells wdZero), .bool false],.agg (wdCells wdZero),.bool false,.agg (wdCells wdZero),.agg (wdCells wdZero),.bool true,.bool false,.bool false,.bool false,.bool false,.bool false,.bool false,U,U,U,U,U,U,U,U] ?_
    go_upto_region 17 with (fail)
    refine vR ?_
    refine vB wd_big qB23 (wd_size _) ?_
    refine vV (.int .i64 1) ?_
    refine vK (heldWdN _) ?_
    intro qw42 qg43
    replace qB2 := qB2.since qg43
    replace qB13 := qB13.since qg43
    replace qB23 := qB23.since qg43
    replace qB39 := qB39.since qg43
    replace G := G.trans qg43
    have qg43_s := qg43.size
    refine vV (.int .i64 1) ?_
    refine vE #[.agg #[.int .u32 i0, .int .u32 i1, .int .u32 i2, .int .u32 i3],.int .i64 b1,.int .i64 b2,.pointer (some ⟨w.heap.size, 0, none⟩),U,U,.bool false,.pointer (some ⟨qw6.heap.size, 0, none⟩),.bool false,.pointer (some ⟨qw16.heap.size, 0, none⟩),.bool false,.int .i64 1,.int .i64 1,.pointer (some ⟨qw32.heap.size, 0, none⟩),.bool false,.tuple #[.agg (wdCells wdZero), .bool false],.agg #[.int .u32 i0, .int .u32 i1, .int .u32 i2, .int .u32 i3],.agg #[.int .u32 i0, .int .u32 i1, .int .u32 i2, .int .u32 i3],.int .i64 b1,.int .i64 b2,.tuple #[.agg (wdCells wdZero), .bool false],.agg (wdCells wdZero),.bool false,.tuple #[.agg (wdCells wdZero), .bool false],.agg #[.int .u32 i0, .int .u32 i1, .int .u32 i2, .int .u32 i3],.agg #[.int .u32 i0, .int .u32 i1, .int .u32 i2, .int .u32 i3],.int .i64 b1,.int .i64 b2,.tuple #[.agg (wdCells wdZero), .bool false],.agg (wdCells wdZero),.bool false,.agg (wdCells wdZero),.agg (wdCells wdZero),.bool true,.bool false,.bool false,.bool false,.bool false,.bool false,.bool false,.agg (wdCells wdZero),.int .i64 1,.int .i64 1,.agg (wdCells wdZero),.int .i64 1,.int .i64 1,.int .i64 1,.bool false,.int .i64 1,.int .i64 1,.bool false,.tuple #[.agg (wdCells wdZero), .bool false],.agg #[.int .u32 i0, .int .u32 i1, .int .u32 i2, .int .u32 i3],.agg #[.int .u32 i0, .int .u32 i1, .int .u32 i2, .int .u32 i3],.int .i64 b1,.int .i64 b2,.tuple #[.agg (wdCells wdZero), .bool false],.agg (wdCells wdZero),.bool false,.agg (wdCells wdZero),.agg (wdCells wdZero),.bool true,.bool false,.bool false,.bool false,.bool false,.bool false,.bool false,.agg (wdCells wdZero),.int .i64 1,.int .i64 1,U,U,U,U,U] ?_
    go_wp2_with (fail)
    go_ret
    exact ⟨rfl, G⟩

set_option maxRecDepth 100000 in
theorem lifted (os : Os) (started : os.Started) (H : Type) (enc : TypeId × Value → H) :
    ReturnsInHanded {} Try.checked os 3 .any (Rows.fnExactWorldStartSpec.pre6 enc Try.prog Try.f3 Rows.fnExactWorldStartRow.domain false) (Rows.fnExactWorldStartSpec.post enc Try.prog Try.f3 false true false false) := by
  refine returnsInHanded_of_change (C := Try.checked) own started (by kernel_rfl) Try.func3
    (ChangeSpec.witness6 (enc := enc) (C := Try.checked) false ⟨#[], #[.agg #[.int .u32 0, .int .u32 0, .int .u32 0, .int .u32 0], .int .i64 0, .int .i64 0], []⟩ 8 (by kernel_rfl) (by kernel_rfl) (by kernel_rfl) (by kernel_rfl)) ?_
  intro W base args ds gs before hval0 hW hcnd _
  have hval : ∀ (j : Nat) t v, Try.f3.params[j]? = some t → args[j]? = some v → Value.okWide Try.prog W .any base t v := hval0
  have hW' := hW
  obtain ⟨p, q, hA0, hV, rfl, hfz, hnd⟩ := hW
  have hA : DataW.TrodAll enc Try.prog W 0 (fun _ => true) true Try.f3.params.toList args.toList ds p := hA0
  rw [Try.params3] at hA hval
  obtain ⟨v0, vs0, d0, ds0, p0, q0, hargs, rfl, rfl, h0, r0⟩ := trodAll_cons hA
  obtain ⟨v1, vs1, d1, ds1, p1, q1, rfl, rfl, rfl, h1, r1⟩ := trodAll_cons r0
  obtain ⟨v2, vs2, d2, ds2, p2, q2, rfl, rfl, rfl, h2, r2⟩ := trodAll_cons r1
  obtain ⟨rfl, rfl, rfl⟩ := trodAll_nil r2
  obtain rfl : args = #[v0, v1, v2] := by cases args; simp_all
  obtain ⟨rfl, rfl⟩ := trodVars_none hV
  have e0 := h0
  have lt0 : ∀ x ∈ p0, x.block < W.heap.size := by obtain ⟨m, hm⟩ := e0; exact DataW.trod_lt m _ _ _ hm
  have e1 := h1
  have lt1 : ∀ x ∈ p1, x.block < W.heap.size := by obtain ⟨m, hm⟩ := e1; exact DataW.trod_lt m _ _ _ hm
  have e2 := h2
  have lt2 : ∀ x ∈ p2, x.block < W.heap.size := by obtain ⟨m, hm⟩ := e2; exact DataW.trod_lt m _ _ _ hm
  obtain ⟨iv0, iv1, iv2, iv3, rfl, x00, x01, x02, x03⟩ := open_a4 (hval 0 23 v0 rfl rfl) h0
  obtain ⟨b1, rfl, _, _, x1⟩ := open_int Try.underlying3 (hval 1 3 v1 rfl rfl) h1
  obtain ⟨b2, rfl, _, _, x2⟩ := open_int Try.underlying3 (hval 2 3 v2 rfl rfl) h2
  clear hA0 hval0
  refine (walk iv0 iv1 iv2 iv3 b1 b2 W x00 x01 x02 x03 x1 x2).mono fun e W' ⟨he, bel⟩ => ?_
  subst he
  exact ⟨_, rfl, _, _, _, [], _, [], hW', trodAll_mk1 (shut_bool Try.underlying4 _), (trodAll_cons_mk (Below.trod laidOut (by kernel_rfl) (of_decide_eq_true (by kernel_rfl)) e0 bel lt0) (trodAll_cons_mk (Below.trod laidOut (by kernel_rfl) (of_decide_eq_true (by kernel_rfl)) e1 bel lt1) (trodAll_cons_mk (Below.trod laidOut (by kernel_rfl) (of_decide_eq_true (by kernel_rfl)) e2 bel lt2) trodAll_mk0))), rfl, bel.frame _, fun h => by cases h⟩

theorem over : Rows.fnExactWorldStartRow.holds Try.pinned (OpenSpec.ofChange Rows.fnExactWorldStartSpec) :=
  OpenClaim.holds_of_wide 3 Try.f3 rfl rfl rfl rfl rfl rfl rfl ⟨rfl, rfl, rfl, rfl, rfl⟩ rfl rfl rfl rfl rfl (by kernel_rfl) Try.func3 (by kernel_rfl)
    (of_decide_eq_true (by kernel_rfl)) (by unfold Func.isWrapper; first | (rw [if_pos (by decide +kernel)]; kernel_rfl) | (rw [if_neg (by decide +kernel)]; exact ⟨rfl, rfl⟩))
    (fun os started H enc _ => lifted os started H enc)

theorem proved : Rows.FnExactWorldStartSaid := over
end Go.Proofs.Ytomnjegldbopiaa.fnExactWorldStart

namespace Go.Proofs.Ytomnjegldbopiaa
theorem fnExactWorldStart_holds : Rows.FnExactWorldStartSaid := fnExactWorldStart.proved
#print axioms fnExactWorldStart_holds
end Go.Proofs.Ytomnjegldbopiaa
