/-
  A pair that begins, as both make it; the laws' functions over it.
-/
import Derived.Test.YtoadnhkbejnimaaPairV
import Derived.Test.YtoadnhkbejnimaaConnAskI
import Derived.Test.YtoadnhkbejnimaaSegLaws
import Derived.Test.YtoadnhkbejnimaaConnNil
import Derived.Deep.DeepCutAuto
namespace Go.Proofs.Ytoadnhkbejnimaa
open Go.ChangeShapes Go.WideShapes Go.ChangeAt Go.RowKit
set_option linter.unusedVariables false
set_option maxRecDepth 10000

/-- The first segment. -/
def askSg (i room : Int) : Sg := synSg (startC 1 i room 0 0) []

theorem ask_yes (i room : Int) (h : 1 ≤ room ∧ room ≤ 4096) : askV i room 0 = .tuple #[.agg (cnCells (startC 1 i room 0 0)), .agg (sgCells (askSg i room)), .bool true] := if_pos ⟨h, by omega, by omega⟩

theorem ask_no (i room : Int) (h : ¬ (1 ≤ room ∧ room ≤ 4096)) : askV i room 0 = .tuple #[.agg (cnCells cnZero), .agg (sgCells sgZero), .bool false] := if_neg (fun q => h q.1)

set_option maxRecDepth 20000 in
theorem pr_zero_lit : Try.zeroCells36 = prCells prZero := by kernel_rfl

set_option maxRecDepth 20000 in
set_option maxHeartbeats 8000000 in
theorem specStartP (i j room : Int) (hi : IsWord i) (h : 1 ≤ room ∧ room ≤ 4096) (w : World) :
    Calls Try.prog 5 #[.int .u32 i, .int .u32 j, .int .i64 room] w fun e w' => ∃ g, e = .returned (.tuple #[.agg (prCells ⟨startC 1 i room 0 0, cnZero, false, j, room, some ⟨g, 0, none⟩, 1, 1, none, 0, 0, 0, ByteArray.empty, ByteArray.empty, ByteArray.empty, ByteArray.empty⟩), .bool true]) ∧ Held shG w' w.heap.size g 1 1 [askSg i room] ∧ Since w w' := by
  have ha := fun wx => specAsk i room 0 hi wx
  rw [ask_yes i room h] at ha
  generalize askSg i room = S at ha ⊢
  generalize startC 1 i room 0 0 = C at ha ⊢
  go_enter Try.func5, Try.ntmps5
  go_upto_region 1 with (fail)
  have G := (Since.refl w).alloc (.cells (prCells prZero) 36)
  have Z := Blk.new w (prCells prZero) 36
  rw [pr_zero_lit]
  generalize w.alloc (.cells (prCells prZero) 36) = x0 at Z G ⊢
  have hZ := Z.lt
  refine wp_region_lit ?_
  refine move_step rfl _ rfl ?_
  refine move_step rfl _ rfl ?_
  refine call_step rfl 14 #[.int .u32 i, .int .i64 room, .int .i64 0] (by kernel_rfl) (ha _) ?_
  rintro _ qw1 ⟨rfl, qg2⟩
  refine ⟨_, rfl, ?_⟩
  replace Z := Z.since qg2
  replace G := G.trans qg2
  have qg2_s := qg2.size
  refine move_step rfl _ rfl ?_
  refine wpList_frame (a' := { tmps := #[.int .u32 i, .int .u32 j, .int .i64 room, undef, undef, undef, .pointer (some ⟨w.heap.size, 0, none⟩), .bool false, undef, undef, undef, .tuple #[.agg (cnCells C), .agg (sgCells S), .bool true], .int .u32 i, .int .i64 room, .tuple #[.agg (cnCells C), .agg (sgCells S), .bool true], undef, undef, undef, undef, undef, undef, undef, undef, undef, undef, undef, undef], defers := [] }) (by kernel_rfl) ?_
  refine step_val (w' := qw1) rfl (.agg (cnCells C)) (by kernel_rfl) ?_
  refine step_val (w' := qw1) rfl (.agg (sgCells S)) (by kernel_rfl) ?_
  refine step_val (w' := qw1) rfl (.bool true) (by kernel_rfl) ?_
  refine step_val (w' := qw1.alloc (.cells (cnCells cnZero) 33)) rfl (.pointer (some ⟨qw1.heap.size, 0, none⟩)) (by kernel_rfl) ?_
  have qB4 := Blk.new qw1 (cnCells cnZero) 33
  have qg5 := (Since.refl qw1).alloc (.cells (cnCells cnZero) 33)
  replace Z := Z.since qg5
  replace G := G.trans qg5
  generalize qw1.alloc (.cells (cnCells cnZero) 33) = qw3 at Z G qB4 qg5 ⊢
  have qB4_l := qB4.lt
  have qg5_s := qg5.size
  refine wpList_frame (a' := { tmps := #[.int .u32 i, .int .u32 j, .int .i64 room, undef, undef, undef, .pointer (some ⟨w.heap.size, 0, none⟩), .bool false, .pointer (some ⟨qw1.heap.size, 0, none⟩), undef, undef, .tuple #[.agg (cnCells C), .agg (sgCells S), .bool true], .int .u32 i, .int .i64 room, .tuple #[.agg (cnCells C), .agg (sgCells S), .bool true], .agg (cnCells C), .agg (sgCells S), .bool true, undef, undef, undef, undef, undef, undef, undef, undef, undef], defers := [] }) (by kernel_rfl) ?_
  refine step_val (w' := qw3.alloc (.cells (sgCells sgZero) 58)) rfl (.pointer (some ⟨qw3.heap.size, 0, none⟩)) (by kernel_rfl) ?_
  have qB7 := Blk.new qw3 (sgCells sgZero) 58
  have qg8 := (Since.refl qw3).alloc (.cells (sgCells sgZero) 58)
  replace Z := Z.since qg8
  replace qB4 := qB4.since qg8
  replace G := G.trans qg8
  generalize qw3.alloc (.cells (sgCells sgZero) 58) = qw6 at Z qB4 G qB7 qg8 ⊢
  have qB7_l := qB7.lt
  have qg8_s := qg8.size
  refine store_big cn_big (cn_size _) (cn_size _) (cn_one _) qB4 rfl _ _ rfl rfl rfl ?_
  intro qw9 qt10 qB11
  clear qB4
  replace Z := Z.touch qt10 (by omega)
  replace qB7 := qB7.touch qt10 (by omega)
  replace G := since_touch G qt10 (by omega)
  have qt10_s := qt10.size
  refine store_big seg_big rfl rfl (seg_one _ _ _ _ _ _ _ _) qB7 rfl _ _ rfl rfl rfl ?_
  intro qw12 qt13 qB14
  clear qB7
  replace Z := Z.touch qt13 (by omega)
  replace qB11 := qB11.touch qt13 (by omega)
  replace G := since_touch G qt13 (by omega)
  have qt13_s := qt13.size
  refine step_val (w' := qw12) rfl (.bool true) (by kernel_rfl) ?_
  refine wpList_frame (a' := { tmps := #[.int .u32 i, .int .u32 j, .int .i64 room, undef, undef, undef, .pointer (some ⟨w.heap.size, 0, none⟩), .bool false, .pointer (some ⟨qw1.heap.size, 0, none⟩), .pointer (some ⟨qw3.heap.size, 0, none⟩), .bool true, .tuple #[.agg (cnCells C), .agg (sgCells S), .bool true], .int .u32 i, .int .i64 room, .tuple #[.agg (cnCells C), .agg (sgCells S), .bool true], .agg (cnCells C), .agg (sgCells S), .bool true, undef, undef, undef, undef, undef, undef, undef, undef, undef], defers := [] }) (by kernel_rfl) ?_
  go_upto_region 4 with (fail)
  refine wp_region_lit ?_
  refine load_big cn_big (cn_size _) qB11 rfl _ rfl rfl ?_
  refine move_step rfl _ rfl ?_
  refine move_step rfl _ rfl ?_
  refine wpList_frame (a' := { tmps := #[.int .u32 i, .int .u32 j, .int .i64 room, undef, undef, undef, .pointer (some ⟨w.heap.size, 0, none⟩), .bool false, .pointer (some ⟨qw1.heap.size, 0, none⟩), .pointer (some ⟨qw3.heap.size, 0, none⟩), .bool true, .tuple #[.agg (cnCells C), .agg (sgCells S), .bool true], .int .u32 i, .int .i64 room, .tuple #[.agg (cnCells C), .agg (sgCells S), .bool true], .agg (cnCells C), .agg (sgCells S), .bool true, .bool true, .bool false, undef, .agg (cnCells C), .int .u32 j, .int .i64 room, undef, undef, undef], defers := [] }) (by kernel_rfl) ?_
  refine load_big seg_big rfl qB14 rfl _ rfl rfl ?_
  refine step_val (w' := qw12.alloc (.cells (sgCells S) 58)) rfl (.slice (some ⟨qw12.heap.size, 0, none⟩) 1 1) (by kernel_rfl) ?_
  have qL16 := heldG1 qw12 (S)
  have qg17 := (Since.refl qw12).alloc (.cells (sgCells S) 58)
  replace Z := Z.since qg17
  replace qB11 := qB11.since qg17
  replace qB14 := qB14.since qg17
  replace G := G.trans qg17
  generalize qw12.alloc (.cells (sgCells S) 58) = qw15 at Z qB11 qB14 G qL16 qg17 ⊢
  have qg17_s := qg17.size
  have qL16_l := qL16.lt
  refine wpList_frame (a' := { tmps := #[.int .u32 i, .int .u32 j, .int .i64 room, undef, undef, undef, .pointer (some ⟨w.heap.size, 0, none⟩), .bool false, .pointer (some ⟨qw1.heap.size, 0, none⟩), .pointer (some ⟨qw3.heap.size, 0, none⟩), .bool true, .tuple #[.agg (cnCells C), .agg (sgCells S), .bool true], .int .u32 i, .int .i64 room, .tuple #[.agg (cnCells C), .agg (sgCells S), .bool true], .agg (cnCells C), .agg (sgCells S), .bool true, .bool true, .bool false, undef, .agg (cnCells C), .int .u32 j, .int .i64 room, .agg (sgCells S), .slice (some ⟨qw12.heap.size, 0, none⟩) 1 1, undef], defers := [] }) (by kernel_rfl) ?_
  have hL_s := qL16.low'
  refine step_val (w' := qw15) rfl (.agg (prCells ⟨C, cnZero, false, j, room, some ⟨qw12.heap.size, 0, none⟩, 1, 1, none, 0, 0, 0, ByteArray.empty, ByteArray.empty, ByteArray.empty, ByteArray.empty⟩)) (by kernel_rfl) ?_
  refine store_big pr_big (pr_size _) (pr_size _) (pr_one _) Z rfl _ _ rfl rfl rfl ?_
  intro qw18 qt19 qB20
  clear Z
  replace qB11 := qB11.touch qt19 (by omega)
  replace qB14 := qB14.touch qt19 (by omega)
  replace qL16 := qL16.touch qt19 (by omega)
  replace G := since_touch G qt19 (by omega)
  have qt19_s := qt19.size
  refine step_val (w' := qw18) rfl (.bool true) (by kernel_rfl) ?_
  refine wpList_frame (a' := { tmps := #[.int .u32 i, .int .u32 j, .int .i64 room, undef, undef, undef, .pointer (some ⟨w.heap.size, 0, none⟩), .bool true, .pointer (some ⟨qw1.heap.size, 0, none⟩), .pointer (some ⟨qw3.heap.size, 0, none⟩), .bool true, .tuple #[.agg (cnCells C), .agg (sgCells S), .bool true], .int .u32 i, .int .i64 room, .tuple #[.agg (cnCells C), .agg (sgCells S), .bool true], .agg (cnCells C), .agg (sgCells S), .bool true, .bool true, .bool false, undef, .agg (cnCells C), .int .u32 j, .int .i64 room, .agg (sgCells S), .slice (some ⟨qw12.heap.size, 0, none⟩) 1 1, .agg (prCells ⟨C, cnZero, false, j, room, some ⟨qw12.heap.size, 0, none⟩, 1, 1, none, 0, 0, 0, ByteArray.empty, ByteArray.empty, ByteArray.empty, ByteArray.empty⟩)], defers := [] }) (by kernel_rfl) ?_
  go_wp2_with (fail)
  exact bodyPost_ret (results_pr2 (t := 6) (u := 7) rfl _ rfl qB20) rfl ⟨_, rfl, qL16.raise (by omega), G⟩

set_option maxRecDepth 20000 in
set_option maxHeartbeats 8000000 in
theorem specStartN (i j room : Int) (hi : IsWord i) (h : ¬ (1 ≤ room ∧ room ≤ 4096)) (w : World) :
    Calls Try.prog 5 #[.int .u32 i, .int .u32 j, .int .i64 room] w fun e w' => e = .returned (.tuple #[.agg (prCells prZero), .bool false]) ∧ Since w w' := by
  have ha := fun wx => specAsk i room 0 hi wx
  rw [ask_no i room h] at ha
  go_enter Try.func5, Try.ntmps5
  go_upto_region 1 with (fail)
  have G := (Since.refl w).alloc (.cells (prCells prZero) 36)
  have Z := Blk.new w (prCells prZero) 36
  rw [pr_zero_lit]
  generalize w.alloc (.cells (prCells prZero) 36) = x0 at Z G ⊢
  have hZ := Z.lt
  refine wp_region_lit ?_
  refine move_step rfl _ rfl ?_
  refine move_step rfl _ rfl ?_
  refine call_step rfl 14 #[.int .u32 i, .int .i64 room, .int .i64 0] (by kernel_rfl) (ha _) ?_
  rintro _ qw1 ⟨rfl, qg2⟩
  refine ⟨_, rfl, ?_⟩
  replace Z := Z.since qg2
  replace G := G.trans qg2
  have qg2_s := qg2.size
  refine move_step rfl _ rfl ?_
  refine wpList_frame (a' := { tmps := #[.int .u32 i, .int .u32 j, .int .i64 room, undef, undef, undef, .pointer (some ⟨w.heap.size, 0, none⟩), .bool false, undef, undef, undef, .tuple #[.agg (cnCells cnZero), .agg (sgCells sgZero), .bool false], .int .u32 i, .int .i64 room, .tuple #[.agg (cnCells cnZero), .agg (sgCells sgZero), .bool false], undef, undef, undef, undef, undef, undef, undef, undef, undef, undef, undef, undef], defers := [] }) (by kernel_rfl) ?_
  refine step_val (w' := qw1) rfl (.agg (cnCells cnZero)) (by kernel_rfl) ?_
  refine step_val (w' := qw1) rfl (.agg (sgCells sgZero)) (by kernel_rfl) ?_
  refine step_val (w' := qw1) rfl (.bool false) (by kernel_rfl) ?_
  refine step_val (w' := qw1.alloc (.cells (cnCells cnZero) 33)) rfl (.pointer (some ⟨qw1.heap.size, 0, none⟩)) (by kernel_rfl) ?_
  have qB4 := Blk.new qw1 (cnCells cnZero) 33
  have qg5 := (Since.refl qw1).alloc (.cells (cnCells cnZero) 33)
  replace Z := Z.since qg5
  replace G := G.trans qg5
  generalize qw1.alloc (.cells (cnCells cnZero) 33) = qw3 at Z G qB4 qg5 ⊢
  have qB4_l := qB4.lt
  have qg5_s := qg5.size
  refine wpList_frame (a' := { tmps := #[.int .u32 i, .int .u32 j, .int .i64 room, undef, undef, undef, .pointer (some ⟨w.heap.size, 0, none⟩), .bool false, .pointer (some ⟨qw1.heap.size, 0, none⟩), undef, undef, .tuple #[.agg (cnCells cnZero), .agg (sgCells sgZero), .bool false], .int .u32 i, .int .i64 room, .tuple #[.agg (cnCells cnZero), .agg (sgCells sgZero), .bool false], .agg (cnCells cnZero), .agg (sgCells sgZero), .bool false, undef, undef, undef, undef, undef, undef, undef, undef, undef], defers := [] }) (by kernel_rfl) ?_
  refine step_val (w' := qw3.alloc (.cells (sgCells sgZero) 58)) rfl (.pointer (some ⟨qw3.heap.size, 0, none⟩)) (by kernel_rfl) ?_
  have qB7 := Blk.new qw3 (sgCells sgZero) 58
  have qg8 := (Since.refl qw3).alloc (.cells (sgCells sgZero) 58)
  replace Z := Z.since qg8
  replace qB4 := qB4.since qg8
  replace G := G.trans qg8
  generalize qw3.alloc (.cells (sgCells sgZero) 58) = qw6 at Z qB4 G qB7 qg8 ⊢
  have qB7_l := qB7.lt
  have qg8_s := qg8.size
  refine store_big cn_big (cn_size _) (cn_size _) (cn_one _) qB4 rfl _ _ rfl rfl rfl ?_
  intro qw9 qt10 qB11
  clear qB4
  replace Z := Z.touch qt10 (by omega)
  replace qB7 := qB7.touch qt10 (by omega)
  replace G := since_touch G qt10 (by omega)
  have qt10_s := qt10.size
  refine store_big seg_big rfl rfl (seg_one _ _ _ _ _ _ _ _) qB7 rfl _ _ rfl rfl rfl ?_
  intro qw12 qt13 qB14
  clear qB7
  replace Z := Z.touch qt13 (by omega)
  replace qB11 := qB11.touch qt13 (by omega)
  replace G := since_touch G qt13 (by omega)
  have qt13_s := qt13.size
  refine step_val (w' := qw12) rfl (.bool false) (by kernel_rfl) ?_
  refine wpList_frame (a' := { tmps := #[.int .u32 i, .int .u32 j, .int .i64 room, undef, undef, undef, .pointer (some ⟨w.heap.size, 0, none⟩), .bool false, .pointer (some ⟨qw1.heap.size, 0, none⟩), .pointer (some ⟨qw3.heap.size, 0, none⟩), .bool false, .tuple #[.agg (cnCells cnZero), .agg (sgCells sgZero), .bool false], .int .u32 i, .int .i64 room, .tuple #[.agg (cnCells cnZero), .agg (sgCells sgZero), .bool false], .agg (cnCells cnZero), .agg (sgCells sgZero), .bool false, undef, undef, undef, undef, undef, undef, undef, undef, undef], defers := [] }) (by kernel_rfl) ?_
  go_upto_region 3 with (fail)
  refine wp_region_lit ?_
  refine step_val (w' := qw12) rfl (.agg (prCells prZero)) (by kernel_rfl) ?_
  refine store_big pr_big (pr_size _) (pr_size _) (pr_one _) Z rfl _ _ rfl rfl rfl ?_
  intro qw15 qt16 qB17
  clear Z
  replace qB11 := qB11.touch qt16 (by omega)
  replace qB14 := qB14.touch qt16 (by omega)
  replace G := since_touch G qt16 (by omega)
  have qt16_s := qt16.size
  refine step_val (w' := qw15) rfl (.bool false) (by kernel_rfl) ?_
  refine wpList_frame (a' := { tmps := #[.int .u32 i, .int .u32 j, .int .i64 room, undef, undef, undef, .pointer (some ⟨w.heap.size, 0, none⟩), .bool false, .pointer (some ⟨qw1.heap.size, 0, none⟩), .pointer (some ⟨qw3.heap.size, 0, none⟩), .bool false, .tuple #[.agg (cnCells cnZero), .agg (sgCells sgZero), .bool false], .int .u32 i, .int .i64 room, .tuple #[.agg (cnCells cnZero), .agg (sgCells sgZero), .bool false], .agg (cnCells cnZero), .agg (sgCells sgZero), .bool false, .bool false, .bool true, .agg (prCells prZero), undef, undef, undef, undef, undef, undef], defers := [] }) (by kernel_rfl) ?_
  go_wp2_with (fail)
  exact bodyPost_ret (results_pr2 (t := 6) (u := 7) rfl _ rfl qB17) rfl ⟨rfl, G⟩

set_option maxRecDepth 20000 in
set_option maxHeartbeats 8000000 in
theorem implStartP (i j room : Int) (hi : IsWord i) (h : 1 ≤ room ∧ room ≤ 4096) (w : World) :
    Calls Try.prog 6 #[.int .u32 i, .int .u32 j, .int .i64 room] w fun e w' => ∃ g, e = .returned (.tuple #[.agg (prCells ⟨startC 1 i room 0 0, cnZero, false, j, room, some ⟨g, 0, none⟩, 1, 1, none, 0, 0, 0, ByteArray.empty, ByteArray.empty, ByteArray.empty, ByteArray.empty⟩), .bool true]) ∧ Held shG w' w.heap.size g 1 1 [askSg i room] ∧ Since w w' := by
  have ha := fun wx => implAsk i room 0 hi wx
  rw [ask_yes i room h] at ha
  generalize askSg i room = S at ha ⊢
  generalize startC 1 i room 0 0 = C at ha ⊢
  go_enter Try.func6, Try.ntmps6
  go_upto_region 1 with (fail)
  have G := (Since.refl w).alloc (.cells (prCells prZero) 36)
  have Z := Blk.new w (prCells prZero) 36
  rw [pr_zero_lit]
  generalize w.alloc (.cells (prCells prZero) 36) = x0 at Z G ⊢
  have hZ := Z.lt
  refine wp_region_lit ?_
  refine move_step rfl _ rfl ?_
  refine move_step rfl _ rfl ?_
  refine call_step rfl 15 #[.int .u32 i, .int .i64 room, .int .i64 0] (by kernel_rfl) (ha _) ?_
  rintro _ qw1 ⟨rfl, qg2⟩
  refine ⟨_, rfl, ?_⟩
  replace Z := Z.since qg2
  replace G := G.trans qg2
  have qg2_s := qg2.size
  refine move_step rfl _ rfl ?_
  refine wpList_frame (a' := { tmps := #[.int .u32 i, .int .u32 j, .int .i64 room, undef, undef, undef, .pointer (some ⟨w.heap.size, 0, none⟩), .bool false, undef, undef, undef, .tuple #[.agg (cnCells C), .agg (sgCells S), .bool true], .int .u32 i, .int .i64 room, .tuple #[.agg (cnCells C), .agg (sgCells S), .bool true], undef, undef, undef, undef, undef, undef, undef, undef, undef, undef, undef, undef], defers := [] }) (by kernel_rfl) ?_
  refine step_val (w' := qw1) rfl (.agg (cnCells C)) (by kernel_rfl) ?_
  refine step_val (w' := qw1) rfl (.agg (sgCells S)) (by kernel_rfl) ?_
  refine step_val (w' := qw1) rfl (.bool true) (by kernel_rfl) ?_
  refine step_val (w' := qw1.alloc (.cells (cnCells cnZero) 33)) rfl (.pointer (some ⟨qw1.heap.size, 0, none⟩)) (by kernel_rfl) ?_
  have qB4 := Blk.new qw1 (cnCells cnZero) 33
  have qg5 := (Since.refl qw1).alloc (.cells (cnCells cnZero) 33)
  replace Z := Z.since qg5
  replace G := G.trans qg5
  generalize qw1.alloc (.cells (cnCells cnZero) 33) = qw3 at Z G qB4 qg5 ⊢
  have qB4_l := qB4.lt
  have qg5_s := qg5.size
  refine wpList_frame (a' := { tmps := #[.int .u32 i, .int .u32 j, .int .i64 room, undef, undef, undef, .pointer (some ⟨w.heap.size, 0, none⟩), .bool false, .pointer (some ⟨qw1.heap.size, 0, none⟩), undef, undef, .tuple #[.agg (cnCells C), .agg (sgCells S), .bool true], .int .u32 i, .int .i64 room, .tuple #[.agg (cnCells C), .agg (sgCells S), .bool true], .agg (cnCells C), .agg (sgCells S), .bool true, undef, undef, undef, undef, undef, undef, undef, undef, undef], defers := [] }) (by kernel_rfl) ?_
  refine step_val (w' := qw3.alloc (.cells (sgCells sgZero) 58)) rfl (.pointer (some ⟨qw3.heap.size, 0, none⟩)) (by kernel_rfl) ?_
  have qB7 := Blk.new qw3 (sgCells sgZero) 58
  have qg8 := (Since.refl qw3).alloc (.cells (sgCells sgZero) 58)
  replace Z := Z.since qg8
  replace qB4 := qB4.since qg8
  replace G := G.trans qg8
  generalize qw3.alloc (.cells (sgCells sgZero) 58) = qw6 at Z qB4 G qB7 qg8 ⊢
  have qB7_l := qB7.lt
  have qg8_s := qg8.size
  refine store_big cn_big (cn_size _) (cn_size _) (cn_one _) qB4 rfl _ _ rfl rfl rfl ?_
  intro qw9 qt10 qB11
  clear qB4
  replace Z := Z.touch qt10 (by omega)
  replace qB7 := qB7.touch qt10 (by omega)
  replace G := since_touch G qt10 (by omega)
  have qt10_s := qt10.size
  refine store_big seg_big rfl rfl (seg_one _ _ _ _ _ _ _ _) qB7 rfl _ _ rfl rfl rfl ?_
  intro qw12 qt13 qB14
  clear qB7
  replace Z := Z.touch qt13 (by omega)
  replace qB11 := qB11.touch qt13 (by omega)
  replace G := since_touch G qt13 (by omega)
  have qt13_s := qt13.size
  refine step_val (w' := qw12) rfl (.bool true) (by kernel_rfl) ?_
  refine wpList_frame (a' := { tmps := #[.int .u32 i, .int .u32 j, .int .i64 room, undef, undef, undef, .pointer (some ⟨w.heap.size, 0, none⟩), .bool false, .pointer (some ⟨qw1.heap.size, 0, none⟩), .pointer (some ⟨qw3.heap.size, 0, none⟩), .bool true, .tuple #[.agg (cnCells C), .agg (sgCells S), .bool true], .int .u32 i, .int .i64 room, .tuple #[.agg (cnCells C), .agg (sgCells S), .bool true], .agg (cnCells C), .agg (sgCells S), .bool true, undef, undef, undef, undef, undef, undef, undef, undef, undef], defers := [] }) (by kernel_rfl) ?_
  go_upto_region 4 with (fail)
  refine wp_region_lit ?_
  refine load_big cn_big (cn_size _) qB11 rfl _ rfl rfl ?_
  refine move_step rfl _ rfl ?_
  refine move_step rfl _ rfl ?_
  refine wpList_frame (a' := { tmps := #[.int .u32 i, .int .u32 j, .int .i64 room, undef, undef, undef, .pointer (some ⟨w.heap.size, 0, none⟩), .bool false, .pointer (some ⟨qw1.heap.size, 0, none⟩), .pointer (some ⟨qw3.heap.size, 0, none⟩), .bool true, .tuple #[.agg (cnCells C), .agg (sgCells S), .bool true], .int .u32 i, .int .i64 room, .tuple #[.agg (cnCells C), .agg (sgCells S), .bool true], .agg (cnCells C), .agg (sgCells S), .bool true, .bool true, .bool false, undef, .agg (cnCells C), .int .u32 j, .int .i64 room, undef, undef, undef], defers := [] }) (by kernel_rfl) ?_
  refine load_big seg_big rfl qB14 rfl _ rfl rfl ?_
  refine step_val (w' := qw12.alloc (.cells (sgCells S) 58)) rfl (.slice (some ⟨qw12.heap.size, 0, none⟩) 1 1) (by kernel_rfl) ?_
  have qL16 := heldG1 qw12 (S)
  have qg17 := (Since.refl qw12).alloc (.cells (sgCells S) 58)
  replace Z := Z.since qg17
  replace qB11 := qB11.since qg17
  replace qB14 := qB14.since qg17
  replace G := G.trans qg17
  generalize qw12.alloc (.cells (sgCells S) 58) = qw15 at Z qB11 qB14 G qL16 qg17 ⊢
  have qg17_s := qg17.size
  have qL16_l := qL16.lt
  refine wpList_frame (a' := { tmps := #[.int .u32 i, .int .u32 j, .int .i64 room, undef, undef, undef, .pointer (some ⟨w.heap.size, 0, none⟩), .bool false, .pointer (some ⟨qw1.heap.size, 0, none⟩), .pointer (some ⟨qw3.heap.size, 0, none⟩), .bool true, .tuple #[.agg (cnCells C), .agg (sgCells S), .bool true], .int .u32 i, .int .i64 room, .tuple #[.agg (cnCells C), .agg (sgCells S), .bool true], .agg (cnCells C), .agg (sgCells S), .bool true, .bool true, .bool false, undef, .agg (cnCells C), .int .u32 j, .int .i64 room, .agg (sgCells S), .slice (some ⟨qw12.heap.size, 0, none⟩) 1 1, undef], defers := [] }) (by kernel_rfl) ?_
  have hL_s := qL16.low'
  refine step_val (w' := qw15) rfl (.agg (prCells ⟨C, cnZero, false, j, room, some ⟨qw12.heap.size, 0, none⟩, 1, 1, none, 0, 0, 0, ByteArray.empty, ByteArray.empty, ByteArray.empty, ByteArray.empty⟩)) (by kernel_rfl) ?_
  refine store_big pr_big (pr_size _) (pr_size _) (pr_one _) Z rfl _ _ rfl rfl rfl ?_
  intro qw18 qt19 qB20
  clear Z
  replace qB11 := qB11.touch qt19 (by omega)
  replace qB14 := qB14.touch qt19 (by omega)
  replace qL16 := qL16.touch qt19 (by omega)
  replace G := since_touch G qt19 (by omega)
  have qt19_s := qt19.size
  refine step_val (w' := qw18) rfl (.bool true) (by kernel_rfl) ?_
  refine wpList_frame (a' := { tmps := #[.int .u32 i, .int .u32 j, .int .i64 room, undef, undef, undef, .pointer (some ⟨w.heap.size, 0, none⟩), .bool true, .pointer (some ⟨qw1.heap.size, 0, none⟩), .pointer (some ⟨qw3.heap.size, 0, none⟩), .bool true, .tuple #[.agg (cnCells C), .agg (sgCells S), .bool true], .int .u32 i, .int .i64 room, .tuple #[.agg (cnCells C), .agg (sgCells S), .bool true], .agg (cnCells C), .agg (sgCells S), .bool true, .bool true, .bool false, undef, .agg (cnCells C), .int .u32 j, .int .i64 room, .agg (sgCells S), .slice (some ⟨qw12.heap.size, 0, none⟩) 1 1, .agg (prCells ⟨C, cnZero, false, j, room, some ⟨qw12.heap.size, 0, none⟩, 1, 1, none, 0, 0, 0, ByteArray.empty, ByteArray.empty, ByteArray.empty, ByteArray.empty⟩)], defers := [] }) (by kernel_rfl) ?_
  go_wp2_with (fail)
  exact bodyPost_ret (results_pr2 (t := 6) (u := 7) rfl _ rfl qB20) rfl ⟨_, rfl, qL16.raise (by omega), G⟩

set_option maxRecDepth 20000 in
set_option maxHeartbeats 8000000 in
theorem implStartN (i j room : Int) (hi : IsWord i) (h : ¬ (1 ≤ room ∧ room ≤ 4096)) (w : World) :
    Calls Try.prog 6 #[.int .u32 i, .int .u32 j, .int .i64 room] w fun e w' => e = .returned (.tuple #[.agg (prCells prZero), .bool false]) ∧ Since w w' := by
  have ha := fun wx => implAsk i room 0 hi wx
  rw [ask_no i room h] at ha
  go_enter Try.func6, Try.ntmps6
  go_upto_region 1 with (fail)
  have G := (Since.refl w).alloc (.cells (prCells prZero) 36)
  have Z := Blk.new w (prCells prZero) 36
  rw [pr_zero_lit]
  generalize w.alloc (.cells (prCells prZero) 36) = x0 at Z G ⊢
  have hZ := Z.lt
  refine wp_region_lit ?_
  refine move_step rfl _ rfl ?_
  refine move_step rfl _ rfl ?_
  refine call_step rfl 15 #[.int .u32 i, .int .i64 room, .int .i64 0] (by kernel_rfl) (ha _) ?_
  rintro _ qw1 ⟨rfl, qg2⟩
  refine ⟨_, rfl, ?_⟩
  replace Z := Z.since qg2
  replace G := G.trans qg2
  have qg2_s := qg2.size
  refine move_step rfl _ rfl ?_
  refine wpList_frame (a' := { tmps := #[.int .u32 i, .int .u32 j, .int .i64 room, undef, undef, undef, .pointer (some ⟨w.heap.size, 0, none⟩), .bool false, undef, undef, undef, .tuple #[.agg (cnCells cnZero), .agg (sgCells sgZero), .bool false], .int .u32 i, .int .i64 room, .tuple #[.agg (cnCells cnZero), .agg (sgCells sgZero), .bool false], undef, undef, undef, undef, undef, undef, undef, undef, undef, undef, undef, undef], defers := [] }) (by kernel_rfl) ?_
  refine step_val (w' := qw1) rfl (.agg (cnCells cnZero)) (by kernel_rfl) ?_
  refine step_val (w' := qw1) rfl (.agg (sgCells sgZero)) (by kernel_rfl) ?_
  refine step_val (w' := qw1) rfl (.bool false) (by kernel_rfl) ?_
  refine step_val (w' := qw1.alloc (.cells (cnCells cnZero) 33)) rfl (.pointer (some ⟨qw1.heap.size, 0, none⟩)) (by kernel_rfl) ?_
  have qB4 := Blk.new qw1 (cnCells cnZero) 33
  have qg5 := (Since.refl qw1).alloc (.cells (cnCells cnZero) 33)
  replace Z := Z.since qg5
  replace G := G.trans qg5
  generalize qw1.alloc (.cells (cnCells cnZero) 33) = qw3 at Z G qB4 qg5 ⊢
  have qB4_l := qB4.lt
  have qg5_s := qg5.size
  refine wpList_frame (a' := { tmps := #[.int .u32 i, .int .u32 j, .int .i64 room, undef, undef, undef, .pointer (some ⟨w.heap.size, 0, none⟩), .bool false, .pointer (some ⟨qw1.heap.size, 0, none⟩), undef, undef, .tuple #[.agg (cnCells cnZero), .agg (sgCells sgZero), .bool false], .int .u32 i, .int .i64 room, .tuple #[.agg (cnCells cnZero), .agg (sgCells sgZero), .bool false], .agg (cnCells cnZero), .agg (sgCells sgZero), .bool false, undef, undef, undef, undef, undef, undef, undef, undef, undef], defers := [] }) (by kernel_rfl) ?_
  refine step_val (w' := qw3.alloc (.cells (sgCells sgZero) 58)) rfl (.pointer (some ⟨qw3.heap.size, 0, none⟩)) (by kernel_rfl) ?_
  have qB7 := Blk.new qw3 (sgCells sgZero) 58
  have qg8 := (Since.refl qw3).alloc (.cells (sgCells sgZero) 58)
  replace Z := Z.since qg8
  replace qB4 := qB4.since qg8
  replace G := G.trans qg8
  generalize qw3.alloc (.cells (sgCells sgZero) 58) = qw6 at Z qB4 G qB7 qg8 ⊢
  have qB7_l := qB7.lt
  have qg8_s := qg8.size
  refine store_big cn_big (cn_size _) (cn_size _) (cn_one _) qB4 rfl _ _ rfl rfl rfl ?_
  intro qw9 qt10 qB11
  clear qB4
  replace Z := Z.touch qt10 (by omega)
  replace qB7 := qB7.touch qt10 (by omega)
  replace G := since_touch G qt10 (by omega)
  have qt10_s := qt10.size
  refine store_big seg_big rfl rfl (seg_one _ _ _ _ _ _ _ _) qB7 rfl _ _ rfl rfl rfl ?_
  intro qw12 qt13 qB14
  clear qB7
  replace Z := Z.touch qt13 (by omega)
  replace qB11 := qB11.touch qt13 (by omega)
  replace G := since_touch G qt13 (by omega)
  have qt13_s := qt13.size
  refine step_val (w' := qw12) rfl (.bool false) (by kernel_rfl) ?_
  refine wpList_frame (a' := { tmps := #[.int .u32 i, .int .u32 j, .int .i64 room, undef, undef, undef, .pointer (some ⟨w.heap.size, 0, none⟩), .bool false, .pointer (some ⟨qw1.heap.size, 0, none⟩), .pointer (some ⟨qw3.heap.size, 0, none⟩), .bool false, .tuple #[.agg (cnCells cnZero), .agg (sgCells sgZero), .bool false], .int .u32 i, .int .i64 room, .tuple #[.agg (cnCells cnZero), .agg (sgCells sgZero), .bool false], .agg (cnCells cnZero), .agg (sgCells sgZero), .bool false, undef, undef, undef, undef, undef, undef, undef, undef, undef], defers := [] }) (by kernel_rfl) ?_
  go_upto_region 3 with (fail)
  refine wp_region_lit ?_
  refine step_val (w' := qw12) rfl (.agg (prCells prZero)) (by kernel_rfl) ?_
  refine store_big pr_big (pr_size _) (pr_size _) (pr_one _) Z rfl _ _ rfl rfl rfl ?_
  intro qw15 qt16 qB17
  clear Z
  replace qB11 := qB11.touch qt16 (by omega)
  replace qB14 := qB14.touch qt16 (by omega)
  replace G := since_touch G qt16 (by omega)
  have qt16_s := qt16.size
  refine step_val (w' := qw15) rfl (.bool false) (by kernel_rfl) ?_
  refine wpList_frame (a' := { tmps := #[.int .u32 i, .int .u32 j, .int .i64 room, undef, undef, undef, .pointer (some ⟨w.heap.size, 0, none⟩), .bool false, .pointer (some ⟨qw1.heap.size, 0, none⟩), .pointer (some ⟨qw3.heap.size, 0, none⟩), .bool false, .tuple #[.agg (cnCells cnZero), .agg (sgCells sgZero), .bool false], .int .u32 i, .int .i64 room, .tuple #[.agg (cnCells cnZero), .agg (sgCells sgZero), .bool false], .agg (cnCells cnZero), .agg (sgCells sgZero), .bool false, .bool false, .bool true, .agg (prCells prZero), undef, undef, undef, undef, undef, undef], defers := [] }) (by kernel_rfl) ?_
  go_wp2_with (fail)
  exact bodyPost_ret (results_pr2 (t := 6) (u := 7) rfl _ rfl qB17) rfl ⟨rfl, G⟩
end Go.Proofs.Ytoadnhkbejnimaa
