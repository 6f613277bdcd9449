/-
  A pair that begins, as both make it; the laws' functions over it.
-/
import Derived.Test.YtomnjegldbopiaaPairV
import Derived.Test.YtomnjegldbopiaaConnAskI
import Derived.Test.YtomnjegldbopiaaSegLaws
import Derived.Test.YtomnjegldbopiaaConnNil
import Derived.Test.YtomnjegldbopiaaVl
import Derived.Deep.DeepCutAuto
namespace Go.Proofs.Ytomnjegldbopiaa
open Go.ChangeShapes Go.WideShapes Go.ChangeAt Go.RowKit
set_option linter.unusedVariables false
set_option maxRecDepth 10000

/-- The first segment. -/
def askSg (i room : Int) : Sg := synSg (startC 1 i room 0 0) []

theorem ask_yes (i room : Int) (h : 1 ≤ room ∧ room ≤ 4096) : askV i room 0 = .tuple #[.agg (cnCells (startC 1 i room 0 0)), .agg (sgCells (askSg i room)), .bool true] := if_pos ⟨h, by omega, by omega⟩

theorem ask_no (i room : Int) (h : ¬ (1 ≤ room ∧ room ≤ 4096)) : askV i room 0 = .tuple #[.agg (cnCells cnZero), .agg (sgCells sgZero), .bool false] := if_neg (fun q => h q.1)

set_option maxRecDepth 20000 in
set_option maxHeartbeats 8000000 in
theorem specStartP (i j room : Int) (hi : IsWord i) (h : 1 ≤ room ∧ room ≤ 4096) (w : World) :
    Calls Try.prog 10 #[.int .u32 i, .int .u32 j, .int .i64 room] w fun e w' => ∃ g, e = .returned (.tuple #[.agg (prCells ⟨startC 1 i room 0 0, cnZero, false, j, room, some ⟨g, 0, none⟩, 1, 1, none, 0, 0, 0, ByteArray.empty, ByteArray.empty, ByteArray.empty, ByteArray.empty⟩), .bool true]) ∧ Held shG w' w.heap.size g 1 1 [askSg i room] ∧ Since w w' := by
  have ha := fun wx => specAsk i room 0 hi wx
  rw [ask_yes i room h] at ha
  generalize askSg i room = S at ha ⊢
  generalize startC 1 i room 0 0 = C at ha ⊢
  go_enter Try.func10, Try.ntmps10
  have G := Since.refl w
  go_upto_region 0 with (fail)
  refine vR ?_
  refine vW (w.alloc (.cells (prCells prZero) 37)) (.pointer (some ⟨w.heap.size, 0, none⟩)) ?_
  have qB2 := Blk.new w (prCells prZero) 37
  have qg3 := (Since.refl w).alloc (.cells (prCells prZero) 37)
  replace G := G.trans qg3
  generalize w.alloc (.cells (prCells prZero) 37) = qw1 at  G qB2 qg3 ⊢
  have qB2_l := qB2.lt
  have qg3_s := qg3.size
  refine vV (.bool false) ?_
  refine vE #[.int .u32 i,.int .u32 j,.int .i64 room,U,U,U,.pointer (some ⟨w.heap.size, 0, none⟩),.bool false,U,U,U,U,U,U,U,U,U,U,U,U,U,U,U,U,U,U,U] ?_
  go_upto_region 1 with (fail)
  refine vR ?_
  refine vV (.int .u32 i) ?_
  refine vV (.int .i64 room) ?_
  refine vK (ha _) ?_
  intro qw4 qg5
  replace qB2 := qB2.since qg5
  replace G := G.trans qg5
  have qg5_s := qg5.size
  refine vV (.tuple #[.agg (cnCells C), .agg (sgCells S), .bool true]) ?_
  refine vV (.agg (cnCells C)) ?_
  refine vV (.agg (sgCells S)) ?_
  refine vV (.bool true) ?_
  refine vW (qw4.alloc (.cells (cnCells cnZero) 34)) (.pointer (some ⟨qw4.heap.size, 0, none⟩)) ?_
  have qB7 := Blk.new qw4 (cnCells cnZero) 34
  have qg8 := (Since.refl qw4).alloc (.cells (cnCells cnZero) 34)
  replace qB2 := qB2.since qg8
  replace G := G.trans qg8
  generalize qw4.alloc (.cells (cnCells cnZero) 34) = qw6 at qB2 G qB7 qg8 ⊢
  have qB7_l := qB7.lt
  have qg8_s := qg8.size
  refine vW (qw6.alloc (.cells (sgCells sgZero) 58)) (.pointer (some ⟨qw6.heap.size, 0, none⟩)) ?_
  have qB10 := Blk.new qw6 (sgCells sgZero) 58
  have qg11 := (Since.refl qw6).alloc (.cells (sgCells sgZero) 58)
  replace qB2 := qB2.since qg11
  replace qB7 := qB7.since qg11
  replace G := G.trans qg11
  generalize qw6.alloc (.cells (sgCells sgZero) 58) = qw9 at qB2 qB7 G qB10 qg11 ⊢
  have qB10_l := qB10.lt
  have qg11_s := qg11.size
  refine sB (cnCells C) cn_big qB7 (cn_size _) (cn_size _) (cn_one _) ?_
  intro qw12 qt13 qB14
  clear qB7
  replace qB2 := qB2.touch qt13 (by omega)
  replace qB10 := qB10.touch qt13 (by omega)
  replace G := since_touch G qt13 (by omega)
  have qt13_s := qt13.size
  refine sB (sgCells S) seg_big qB10 rfl rfl (seg_one _ _ _ _ _ _ _ _) ?_
  intro qw15 qt16 qB17
  clear qB10
  replace qB2 := qB2.touch qt16 (by omega)
  replace qB14 := qB14.touch qt16 (by omega)
  replace G := since_touch G qt16 (by omega)
  have qt16_s := qt16.size
  refine vV (.bool true) ?_
  refine vE #[.int .u32 i,.int .u32 j,.int .i64 room,U,U,U,.pointer (some ⟨w.heap.size, 0, none⟩),.bool false,.pointer (some ⟨qw4.heap.size, 0, none⟩),.pointer (some ⟨qw6.heap.size, 0, none⟩),.bool true,.tuple #[.agg (cnCells C), .agg (sgCells S), .bool true],.int .u32 i,.int .i64 room,.tuple #[.agg (cnCells C), .agg (sgCells S), .bool true],.agg (cnCells C),.agg (sgCells S),.bool true,U,U,U,U,U,U,U,U,U] ?_
  go_upto_region 4 with (fail)
  refine vR ?_
  refine vB cn_big qB14 (cn_size _) ?_
  refine vV (.int .u32 j) ?_
  refine vV (.int .i64 room) ?_
  refine vB seg_big qB17 rfl ?_
  refine vW (qw15.alloc (.cells (sgCells S) 58)) (.slice (some ⟨qw15.heap.size, 0, none⟩) 1 1) ?_
  have qL19 := heldG1 qw15 (S)
  have qg20 := (Since.refl qw15).alloc (.cells (sgCells S) 58)
  replace qB2 := qB2.since qg20
  replace qB14 := qB14.since qg20
  replace qB17 := qB17.since qg20
  replace G := G.trans qg20
  generalize qw15.alloc (.cells (sgCells S) 58) = qw18 at qB2 qB14 qB17 G qL19 qg20 ⊢
  have qg20_s := qg20.size
  have qL19_l := qL19.lt
  refine vF #[.int .u32 i,.int .u32 j,.int .i64 room,U,U,U,.pointer (some ⟨w.heap.size, 0, none⟩),.bool false,.pointer (some ⟨qw4.heap.size, 0, none⟩),.pointer (some ⟨qw6.heap.size, 0, none⟩),.bool true,.tuple #[.agg (cnCells C), .agg (sgCells S), .bool true],.int .u32 i,.int .i64 room,.tuple #[.agg (cnCells C), .agg (sgCells S), .bool true],.agg (cnCells C),.agg (sgCells S),.bool true,.bool true,.bool false,U,.agg (cnCells C),.int .u32 j,.int .i64 room,.agg (sgCells S),.slice (some ⟨qw15.heap.size, 0, none⟩) 1 1,U] ?_
  refine VL.mk ?_
  have hL_s := qL19.low'
  refine VL.out ?_
  refine vV (.agg (prCells ⟨C, cnZero, false, j, room, some ⟨qw15.heap.size, 0, none⟩, 1, 1, none, 0, 0, 0, ByteArray.empty, ByteArray.empty, ByteArray.empty, ByteArray.empty⟩)) ?_
  refine sB (prCells ⟨C, cnZero, false, j, room, some ⟨qw15.heap.size, 0, none⟩, 1, 1, none, 0, 0, 0, ByteArray.empty, ByteArray.empty, ByteArray.empty, ByteArray.empty⟩) pr_big qB2 (pr_size _) (pr_size _) (pr_one _) ?_
  intro qw21 qt22 qB23
  clear qB2
  replace qB14 := qB14.touch qt22 (by omega)
  replace qB17 := qB17.touch qt22 (by omega)
  replace qL19 := qL19.touch qt22 (by omega)
  replace G := since_touch G qt22 (by omega)
  have qt22_s := qt22.size
  refine vV (.bool true) ?_
  refine vE #[.int .u32 i,.int .u32 j,.int .i64 room,U,U,U,.pointer (some ⟨w.heap.size, 0, none⟩),.bool true,.pointer (some ⟨qw4.heap.size, 0, none⟩),.pointer (some ⟨qw6.heap.size, 0, none⟩),.bool true,.tuple #[.agg (cnCells C), .agg (sgCells S), .bool true],.int .u32 i,.int .i64 room,.tuple #[.agg (cnCells C), .agg (sgCells S), .bool true],.agg (cnCells C),.agg (sgCells S),.bool true,.bool true,.bool false,U,.agg (cnCells C),.int .u32 j,.int .i64 room,.agg (sgCells S),.slice (some ⟨qw15.heap.size, 0, none⟩) 1 1,.agg (prCells ⟨C, cnZero, false, j, room, some ⟨qw15.heap.size, 0, none⟩, 1, 1, none, 0, 0, 0, ByteArray.empty, ByteArray.empty, ByteArray.empty, ByteArray.empty⟩)] ?_
  go_wp2_with (fail)
  exact bodyPost_ret (results_pr2 (t := 6) (u := 7) rfl _ rfl qB23) rfl ⟨_, rfl, qL19.raise (by omega), G⟩

set_option maxRecDepth 20000 in
set_option maxHeartbeats 8000000 in
theorem specStartN (i j room : Int) (hi : IsWord i) (h : ¬ (1 ≤ room ∧ room ≤ 4096)) (w : World) :
    Calls Try.prog 10 #[.int .u32 i, .int .u32 j, .int .i64 room] w fun e w' => e = .returned (.tuple #[.agg (prCells prZero), .bool false]) ∧ Since w w' := by
  have ha := fun wx => specAsk i room 0 hi wx
  rw [ask_no i room h] at ha
  go_enter Try.func10, Try.ntmps10
  have G := Since.refl w
  go_upto_region 0 with (fail)
  refine vR ?_
  refine vW (w.alloc (.cells (prCells prZero) 37)) (.pointer (some ⟨w.heap.size, 0, none⟩)) ?_
  have qB2 := Blk.new w (prCells prZero) 37
  have qg3 := (Since.refl w).alloc (.cells (prCells prZero) 37)
  replace G := G.trans qg3
  generalize w.alloc (.cells (prCells prZero) 37) = qw1 at  G qB2 qg3 ⊢
  have qB2_l := qB2.lt
  have qg3_s := qg3.size
  refine vV (.bool false) ?_
  refine vE #[.int .u32 i,.int .u32 j,.int .i64 room,U,U,U,.pointer (some ⟨w.heap.size, 0, none⟩),.bool false,U,U,U,U,U,U,U,U,U,U,U,U,U,U,U,U,U,U,U] ?_
  go_upto_region 1 with (fail)
  refine vR ?_
  refine vV (.int .u32 i) ?_
  refine vV (.int .i64 room) ?_
  refine vK (ha _) ?_
  intro qw4 qg5
  replace qB2 := qB2.since qg5
  replace G := G.trans qg5
  have qg5_s := qg5.size
  refine vV (.tuple #[.agg (cnCells cnZero), .agg (sgCells sgZero), .bool false]) ?_
  refine vV (.agg (cnCells cnZero)) ?_
  refine vV (.agg (sgCells sgZero)) ?_
  refine vV (.bool false) ?_
  refine vW (qw4.alloc (.cells (cnCells cnZero) 34)) (.pointer (some ⟨qw4.heap.size, 0, none⟩)) ?_
  have qB7 := Blk.new qw4 (cnCells cnZero) 34
  have qg8 := (Since.refl qw4).alloc (.cells (cnCells cnZero) 34)
  replace qB2 := qB2.since qg8
  replace G := G.trans qg8
  generalize qw4.alloc (.cells (cnCells cnZero) 34) = qw6 at qB2 G qB7 qg8 ⊢
  have qB7_l := qB7.lt
  have qg8_s := qg8.size
  refine vW (qw6.alloc (.cells (sgCells sgZero) 58)) (.pointer (some ⟨qw6.heap.size, 0, none⟩)) ?_
  have qB10 := Blk.new qw6 (sgCells sgZero) 58
  have qg11 := (Since.refl qw6).alloc (.cells (sgCells sgZero) 58)
  replace qB2 := qB2.since qg11
  replace qB7 := qB7.since qg11
  replace G := G.trans qg11
  generalize qw6.alloc (.cells (sgCells sgZero) 58) = qw9 at qB2 qB7 G qB10 qg11 ⊢
  have qB10_l := qB10.lt
  have qg11_s := qg11.size
  refine sB (cnCells cnZero) cn_big qB7 (cn_size _) (cn_size _) (cn_one _) ?_
  intro qw12 qt13 qB14
  clear qB7
  replace qB2 := qB2.touch qt13 (by omega)
  replace qB10 := qB10.touch qt13 (by omega)
  replace G := since_touch G qt13 (by omega)
  have qt13_s := qt13.size
  refine sB (sgCells sgZero) seg_big qB10 rfl rfl (seg_one _ _ _ _ _ _ _ _) ?_
  intro qw15 qt16 qB17
  clear qB10
  replace qB2 := qB2.touch qt16 (by omega)
  replace qB14 := qB14.touch qt16 (by omega)
  replace G := since_touch G qt16 (by omega)
  have qt16_s := qt16.size
  refine vV (.bool false) ?_
  refine vE #[.int .u32 i,.int .u32 j,.int .i64 room,U,U,U,.pointer (some ⟨w.heap.size, 0, none⟩),.bool false,.pointer (some ⟨qw4.heap.size, 0, none⟩),.pointer (some ⟨qw6.heap.size, 0, none⟩),.bool false,.tuple #[.agg (cnCells cnZero), .agg (sgCells sgZero), .bool false],.int .u32 i,.int .i64 room,.tuple #[.agg (cnCells cnZero), .agg (sgCells sgZero), .bool false],.agg (cnCells cnZero),.agg (sgCells sgZero),.bool false,U,U,U,U,U,U,U,U,U] ?_
  go_upto_region 3 with (fail)
  refine vR ?_
  refine vV (.agg (prCells prZero)) ?_
  refine sB (prCells prZero) pr_big qB2 (pr_size _) (pr_size _) (pr_one _) ?_
  intro qw18 qt19 qB20
  clear qB2
  replace qB14 := qB14.touch qt19 (by omega)
  replace qB17 := qB17.touch qt19 (by omega)
  replace G := since_touch G qt19 (by omega)
  have qt19_s := qt19.size
  refine vV (.bool false) ?_
  refine vE #[.int .u32 i,.int .u32 j,.int .i64 room,U,U,U,.pointer (some ⟨w.heap.size, 0, none⟩),.bool false,.pointer (some ⟨qw4.heap.size, 0, none⟩),.pointer (some ⟨qw6.heap.size, 0, none⟩),.bool false,.tuple #[.agg (cnCells cnZero), .agg (sgCells sgZero), .bool false],.int .u32 i,.int .i64 room,.tuple #[.agg (cnCells cnZero), .agg (sgCells sgZero), .bool false],.agg (cnCells cnZero),.agg (sgCells sgZero),.bool false,.bool false,.bool true,.agg (prCells prZero),U,U,U,U,U,U] ?_
  go_wp2_with (fail)
  exact bodyPost_ret (results_pr2 (t := 6) (u := 7) rfl _ rfl qB20) rfl ⟨rfl, G⟩

set_option maxRecDepth 20000 in
set_option maxHeartbeats 8000000 in
theorem implStartP (i j room : Int) (hi : IsWord i) (h : 1 ≤ room ∧ room ≤ 4096) (w : World) :
    Calls Try.prog 12 #[.int .u32 i, .int .u32 j, .int .i64 room] w fun e w' => ∃ g, e = .returned (.tuple #[.agg (prCells ⟨startC 1 i room 0 0, cnZero, false, j, room, some ⟨g, 0, none⟩, 1, 1, none, 0, 0, 0, ByteArray.empty, ByteArray.empty, ByteArray.empty, ByteArray.empty⟩), .bool true]) ∧ Held shG w' w.heap.size g 1 1 [askSg i room] ∧ Since w w' := by
  have ha := fun wx => implAsk i room 0 hi wx
  rw [ask_yes i room h] at ha
  generalize askSg i room = S at ha ⊢
  generalize startC 1 i room 0 0 = C at ha ⊢
  go_enter Try.func12, Try.ntmps12
  have G := Since.refl w
  go_upto_region 0 with (fail)
  refine vR ?_
  refine vW (w.alloc (.cells (prCells prZero) 37)) (.pointer (some ⟨w.heap.size, 0, none⟩)) ?_
  have qB2 := Blk.new w (prCells prZero) 37
  have qg3 := (Since.refl w).alloc (.cells (prCells prZero) 37)
  replace G := G.trans qg3
  generalize w.alloc (.cells (prCells prZero) 37) = qw1 at  G qB2 qg3 ⊢
  have qB2_l := qB2.lt
  have qg3_s := qg3.size
  refine vV (.bool false) ?_
  refine vE #[.int .u32 i,.int .u32 j,.int .i64 room,U,U,U,.pointer (some ⟨w.heap.size, 0, none⟩),.bool false,U,U,U,U,U,U,U,U,U,U,U,U,U,U,U,U,U,U,U] ?_
  go_upto_region 1 with (fail)
  refine vR ?_
  refine vV (.int .u32 i) ?_
  refine vV (.int .i64 room) ?_
  refine vK (ha _) ?_
  intro qw4 qg5
  replace qB2 := qB2.since qg5
  replace G := G.trans qg5
  have qg5_s := qg5.size
  refine vV (.tuple #[.agg (cnCells C), .agg (sgCells S), .bool true]) ?_
  refine vV (.agg (cnCells C)) ?_
  refine vV (.agg (sgCells S)) ?_
  refine vV (.bool true) ?_
  refine vW (qw4.alloc (.cells (cnCells cnZero) 34)) (.pointer (some ⟨qw4.heap.size, 0, none⟩)) ?_
  have qB7 := Blk.new qw4 (cnCells cnZero) 34
  have qg8 := (Since.refl qw4).alloc (.cells (cnCells cnZero) 34)
  replace qB2 := qB2.since qg8
  replace G := G.trans qg8
  generalize qw4.alloc (.cells (cnCells cnZero) 34) = qw6 at qB2 G qB7 qg8 ⊢
  have qB7_l := qB7.lt
  have qg8_s := qg8.size
  refine vW (qw6.alloc (.cells (sgCells sgZero) 58)) (.pointer (some ⟨qw6.heap.size, 0, none⟩)) ?_
  have qB10 := Blk.new qw6 (sgCells sgZero) 58
  have qg11 := (Since.refl qw6).alloc (.cells (sgCells sgZero) 58)
  replace qB2 := qB2.since qg11
  replace qB7 := qB7.since qg11
  replace G := G.trans qg11
  generalize qw6.alloc (.cells (sgCells sgZero) 58) = qw9 at qB2 qB7 G qB10 qg11 ⊢
  have qB10_l := qB10.lt
  have qg11_s := qg11.size
  refine sB (cnCells C) cn_big qB7 (cn_size _) (cn_size _) (cn_one _) ?_
  intro qw12 qt13 qB14
  clear qB7
  replace qB2 := qB2.touch qt13 (by omega)
  replace qB10 := qB10.touch qt13 (by omega)
  replace G := since_touch G qt13 (by omega)
  have qt13_s := qt13.size
  refine sB (sgCells S) seg_big qB10 rfl rfl (seg_one _ _ _ _ _ _ _ _) ?_
  intro qw15 qt16 qB17
  clear qB10
  replace qB2 := qB2.touch qt16 (by omega)
  replace qB14 := qB14.touch qt16 (by omega)
  replace G := since_touch G qt16 (by omega)
  have qt16_s := qt16.size
  refine vV (.bool true) ?_
  refine vE #[.int .u32 i,.int .u32 j,.int .i64 room,U,U,U,.pointer (some ⟨w.heap.size, 0, none⟩),.bool false,.pointer (some ⟨qw4.heap.size, 0, none⟩),.pointer (some ⟨qw6.heap.size, 0, none⟩),.bool true,.tuple #[.agg (cnCells C), .agg (sgCells S), .bool true],.int .u32 i,.int .i64 room,.tuple #[.agg (cnCells C), .agg (sgCells S), .bool true],.agg (cnCells C),.agg (sgCells S),.bool true,U,U,U,U,U,U,U,U,U] ?_
  go_upto_region 4 with (fail)
  refine vR ?_
  refine vB cn_big qB14 (cn_size _) ?_
  refine vV (.int .u32 j) ?_
  refine vV (.int .i64 room) ?_
  refine vB seg_big qB17 rfl ?_
  refine vW (qw15.alloc (.cells (sgCells S) 58)) (.slice (some ⟨qw15.heap.size, 0, none⟩) 1 1) ?_
  have qL19 := heldG1 qw15 (S)
  have qg20 := (Since.refl qw15).alloc (.cells (sgCells S) 58)
  replace qB2 := qB2.since qg20
  replace qB14 := qB14.since qg20
  replace qB17 := qB17.since qg20
  replace G := G.trans qg20
  generalize qw15.alloc (.cells (sgCells S) 58) = qw18 at qB2 qB14 qB17 G qL19 qg20 ⊢
  have qg20_s := qg20.size
  have qL19_l := qL19.lt
  refine vF #[.int .u32 i,.int .u32 j,.int .i64 room,U,U,U,.pointer (some ⟨w.heap.size, 0, none⟩),.bool false,.pointer (some ⟨qw4.heap.size, 0, none⟩),.pointer (some ⟨qw6.heap.size, 0, none⟩),.bool true,.tuple #[.agg (cnCells C), .agg (sgCells S), .bool true],.int .u32 i,.int .i64 room,.tuple #[.agg (cnCells C), .agg (sgCells S), .bool true],.agg (cnCells C),.agg (sgCells S),.bool true,.bool true,.bool false,U,.agg (cnCells C),.int .u32 j,.int .i64 room,.agg (sgCells S),.slice (some ⟨qw15.heap.size, 0, none⟩) 1 1,U] ?_
  refine VL.mk ?_
  have hL_s := qL19.low'
  refine VL.out ?_
  refine vV (.agg (prCells ⟨C, cnZero, false, j, room, some ⟨qw15.heap.size, 0, none⟩, 1, 1, none, 0, 0, 0, ByteArray.empty, ByteArray.empty, ByteArray.empty, ByteArray.empty⟩)) ?_
  refine sB (prCells ⟨C, cnZero, false, j, room, some ⟨qw15.heap.size, 0, none⟩, 1, 1, none, 0, 0, 0, ByteArray.empty, ByteArray.empty, ByteArray.empty, ByteArray.empty⟩) pr_big qB2 (pr_size _) (pr_size _) (pr_one _) ?_
  intro qw21 qt22 qB23
  clear qB2
  replace qB14 := qB14.touch qt22 (by omega)
  replace qB17 := qB17.touch qt22 (by omega)
  replace qL19 := qL19.touch qt22 (by omega)
  replace G := since_touch G qt22 (by omega)
  have qt22_s := qt22.size
  refine vV (.bool true) ?_
  refine vE #[.int .u32 i,.int .u32 j,.int .i64 room,U,U,U,.pointer (some ⟨w.heap.size, 0, none⟩),.bool true,.pointer (some ⟨qw4.heap.size, 0, none⟩),.pointer (some ⟨qw6.heap.size, 0, none⟩),.bool true,.tuple #[.agg (cnCells C), .agg (sgCells S), .bool true],.int .u32 i,.int .i64 room,.tuple #[.agg (cnCells C), .agg (sgCells S), .bool true],.agg (cnCells C),.agg (sgCells S),.bool true,.bool true,.bool false,U,.agg (cnCells C),.int .u32 j,.int .i64 room,.agg (sgCells S),.slice (some ⟨qw15.heap.size, 0, none⟩) 1 1,.agg (prCells ⟨C, cnZero, false, j, room, some ⟨qw15.heap.size, 0, none⟩, 1, 1, none, 0, 0, 0, ByteArray.empty, ByteArray.empty, ByteArray.empty, ByteArray.empty⟩)] ?_
  go_wp2_with (fail)
  exact bodyPost_ret (results_pr2 (t := 6) (u := 7) rfl _ rfl qB23) rfl ⟨_, rfl, qL19.raise (by omega), G⟩

set_option maxRecDepth 20000 in
set_option maxHeartbeats 8000000 in
theorem implStartN (i j room : Int) (hi : IsWord i) (h : ¬ (1 ≤ room ∧ room ≤ 4096)) (w : World) :
    Calls Try.prog 12 #[.int .u32 i, .int .u32 j, .int .i64 room] w fun e w' => e = .returned (.tuple #[.agg (prCells prZero), .bool false]) ∧ Since w w' := by
  have ha := fun wx => implAsk i room 0 hi wx
  rw [ask_no i room h] at ha
  go_enter Try.func12, Try.ntmps12
  have G := Since.refl w
  go_upto_region 0 with (fail)
  refine vR ?_
  refine vW (w.alloc (.cells (prCells prZero) 37)) (.pointer (some ⟨w.heap.size, 0, none⟩)) ?_
  have qB2 := Blk.new w (prCells prZero) 37
  have qg3 := (Since.refl w).alloc (.cells (prCells prZero) 37)
  replace G := G.trans qg3
  generalize w.alloc (.cells (prCells prZero) 37) = qw1 at  G qB2 qg3 ⊢
  have qB2_l := qB2.lt
  have qg3_s := qg3.size
  refine vV (.bool false) ?_
  refine vE #[.int .u32 i,.int .u32 j,.int .i64 room,U,U,U,.pointer (some ⟨w.heap.size, 0, none⟩),.bool false,U,U,U,U,U,U,U,U,U,U,U,U,U,U,U,U,U,U,U] ?_
  go_upto_region 1 with (fail)
  refine vR ?_
  refine vV (.int .u32 i) ?_
  refine vV (.int .i64 room) ?_
  refine vK (ha _) ?_
  intro qw4 qg5
  replace qB2 := qB2.since qg5
  replace G := G.trans qg5
  have qg5_s := qg5.size
  refine vV (.tuple #[.agg (cnCells cnZero), .agg (sgCells sgZero), .bool false]) ?_
  refine vV (.agg (cnCells cnZero)) ?_
  refine vV (.agg (sgCells sgZero)) ?_
  refine vV (.bool false) ?_
  refine vW (qw4.alloc (.cells (cnCells cnZero) 34)) (.pointer (some ⟨qw4.heap.size, 0, none⟩)) ?_
  have qB7 := Blk.new qw4 (cnCells cnZero) 34
  have qg8 := (Since.refl qw4).alloc (.cells (cnCells cnZero) 34)
  replace qB2 := qB2.since qg8
  replace G := G.trans qg8
  generalize qw4.alloc (.cells (cnCells cnZero) 34) = qw6 at qB2 G qB7 qg8 ⊢
  have qB7_l := qB7.lt
  have qg8_s := qg8.size
  refine vW (qw6.alloc (.cells (sgCells sgZero) 58)) (.pointer (some ⟨qw6.heap.size, 0, none⟩)) ?_
  have qB10 := Blk.new qw6 (sgCells sgZero) 58
  have qg11 := (Since.refl qw6).alloc (.cells (sgCells sgZero) 58)
  replace qB2 := qB2.since qg11
  replace qB7 := qB7.since qg11
  replace G := G.trans qg11
  generalize qw6.alloc (.cells (sgCells sgZero) 58) = qw9 at qB2 qB7 G qB10 qg11 ⊢
  have qB10_l := qB10.lt
  have qg11_s := qg11.size
  refine sB (cnCells cnZero) cn_big qB7 (cn_size _) (cn_size _) (cn_one _) ?_
  intro qw12 qt13 qB14
  clear qB7
  replace qB2 := qB2.touch qt13 (by omega)
  replace qB10 := qB10.touch qt13 (by omega)
  replace G := since_touch G qt13 (by omega)
  have qt13_s := qt13.size
  refine sB (sgCells sgZero) seg_big qB10 rfl rfl (seg_one _ _ _ _ _ _ _ _) ?_
  intro qw15 qt16 qB17
  clear qB10
  replace qB2 := qB2.touch qt16 (by omega)
  replace qB14 := qB14.touch qt16 (by omega)
  replace G := since_touch G qt16 (by omega)
  have qt16_s := qt16.size
  refine vV (.bool false) ?_
  refine vE #[.int .u32 i,.int .u32 j,.int .i64 room,U,U,U,.pointer (some ⟨w.heap.size, 0, none⟩),.bool false,.pointer (some ⟨qw4.heap.size, 0, none⟩),.pointer (some ⟨qw6.heap.size, 0, none⟩),.bool false,.tuple #[.agg (cnCells cnZero), .agg (sgCells sgZero), .bool false],.int .u32 i,.int .i64 room,.tuple #[.agg (cnCells cnZero), .agg (sgCells sgZero), .bool false],.agg (cnCells cnZero),.agg (sgCells sgZero),.bool false,U,U,U,U,U,U,U,U,U] ?_
  go_upto_region 3 with (fail)
  refine vR ?_
  refine vV (.agg (prCells prZero)) ?_
  refine sB (prCells prZero) pr_big qB2 (pr_size _) (pr_size _) (pr_one _) ?_
  intro qw18 qt19 qB20
  clear qB2
  replace qB14 := qB14.touch qt19 (by omega)
  replace qB17 := qB17.touch qt19 (by omega)
  replace G := since_touch G qt19 (by omega)
  have qt19_s := qt19.size
  refine vV (.bool false) ?_
  refine vE #[.int .u32 i,.int .u32 j,.int .i64 room,U,U,U,.pointer (some ⟨w.heap.size, 0, none⟩),.bool false,.pointer (some ⟨qw4.heap.size, 0, none⟩),.pointer (some ⟨qw6.heap.size, 0, none⟩),.bool false,.tuple #[.agg (cnCells cnZero), .agg (sgCells sgZero), .bool false],.int .u32 i,.int .i64 room,.tuple #[.agg (cnCells cnZero), .agg (sgCells sgZero), .bool false],.agg (cnCells cnZero),.agg (sgCells sgZero),.bool false,.bool false,.bool true,.agg (prCells prZero),U,U,U,U,U,U] ?_
  go_wp2_with (fail)
  exact bodyPost_ret (results_pr2 (t := 6) (u := 7) rfl _ rfl qB20) rfl ⟨rfl, G⟩
end Go.Proofs.Ytomnjegldbopiaa
