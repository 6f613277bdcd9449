/-
  The laws' markPair and heldPair, over pairs that begin.
-/
import Derived.Test.YtomnjegldbopiaaPairEq
import Derived.Test.YtomnjegldbopiaaPair12
import Derived.Test.YtomnjegldbopiaaSegLaws
import Derived.Test.YtomnjegldbopiaaConnNil
import Derived.Deep.DeepCutAuto
namespace Go.Proofs.Ytomnjegldbopiaa
open Go.ChangeShapes Go.WideShapes Go.ChangeAt Go.RowKit
set_option linter.unusedVariables false
set_option maxRecDepth 10000

theorem markNil (k : Int) (w : World) : Calls Try.prog 26 #[.slice none 0 0, .int .i64 k] w fun e w' => e = .returned (.int .i64 k) ∧ Since w w' := by
  go_enter Try.func26, Try.ntmps26
  go_wp2
  go_loopw [1, 5] (fun q i wr => i = .int .i64 0 ∧ q = .int .i64 k ∧ Since w wr) (fun _ _ _ => 0)
  case atStart => exact ⟨rfl, rfl, Since.refl _⟩
  case round =>
    obtain ⟨rfl, rfl, S⟩ := hrel
    go_wp2
    go_ret
    exact ⟨rfl, S⟩

theorem heldNil (k : Int) (w : World) : Calls Try.prog 28 #[.slice none 0 0, .int .i64 k] w fun e w' => e = .returned (.int .i64 k) ∧ Since w w' := by
  go_enter Try.func28, Try.ntmps28
  go_wp2
  go_loopw [1, 5] (fun q i wr => i = .int .i64 0 ∧ q = .int .i64 k ∧ Since w wr) (fun _ _ _ => 0)
  case atStart => exact ⟨rfl, rfl, Since.refl _⟩
  case round =>
    obtain ⟨rfl, rfl, S⟩ := hrel
    go_wp2
    go_ret
    exact ⟨rfl, S⟩

theorem eqNil (w : World) : Calls Try.prog 23 #[.slice none 0 0, .slice none 0 0] w fun e w' => e = .returned (.bool true) ∧ Since w w' := by
  go_enter Try.func23, Try.ntmps23
  go_wp2
  go_loopw [5] (fun i wr => i = .int .i64 0 ∧ Since w wr) (fun _ _ => 0)
  case atStart => exact ⟨rfl, Since.refl _⟩
  case round =>
    obtain ⟨rfl, S⟩ := hrel
    go_wp2
    go_ret
    exact ⟨rfl, S⟩

set_option maxRecDepth 20000 in
set_option maxHeartbeats 8000000 in
theorem markPr (C : Cn) (hC : NoParts C) (j room : Int) (B g : Nat) (xs : List Sg) (w : World) (L : Held shG w B g 1 1 xs) :
    Calls Try.prog 16 #[.agg (prCells ⟨C, cnZero, false, j, room, some ⟨g, 0, none⟩, 1, 1, none, 0, 0, 0, ByteArray.empty, ByteArray.empty, ByteArray.empty, ByteArray.empty⟩), .int .i64 1] w fun e w' => e = .returned (.int .i64 (1 + 8 * ((1 : Nat) : Int))) ∧ Touch g w w' ∧ ∃ ms, MarkedG 1 1 ms ∧ Held shG w' B g 1 1 ms := by
  have A := Blk.new w (prCells ⟨C, cnZero, false, j, room, some ⟨g, 0, none⟩, 1, 1, none, 0, 0, 0, ByteArray.empty, ByteArray.empty, ByteArray.empty, ByteArray.empty⟩) 37
  have G0 := (Since.refl w).alloc (.cells (prCells ⟨C, cnZero, false, j, room, some ⟨g, 0, none⟩, 1, 1, none, 0, 0, 0, ByteArray.empty, ByteArray.empty, ByteArray.empty, ByteArray.empty⟩) 37)
  have hg := L.lt
  replace L := L.since G0
  go_enter Try.func16, Try.ntmps16
  go_upto_region 1 with (fail)
  generalize w.alloc (.cells (prCells ⟨C, cnZero, false, j, room, some ⟨g, 0, none⟩, 1, 1, none, 0, 0, 0, ByteArray.empty, ByteArray.empty, ByteArray.empty, ByteArray.empty⟩) 37) = x0 at A G0 L ⊢
  have G := Touch.of_since G0 g
  refine wp_region_lit ?_
  refine step_val (w' := x0) rfl (.pointer (some ⟨w.heap.size, 0, none⟩)) (by kernel_rfl) ?_
  refine load_pa cn_big A rfl _ rfl rfl ?_
  refine move_step rfl _ rfl ?_
  refine call_step rfl 25 #[.agg (cnCells C), .int .i64 1] (by kernel_rfl) (mark0 C hC _) ?_
  rintro _ qw1 ⟨rfl, qg2⟩
  refine ⟨_, rfl, ?_⟩
  replace A := A.since qg2
  replace L := L.since qg2
  replace G := G.trans (Touch.of_since qg2 g)
  have qg2_s := qg2.size
  refine wpList_frame (a' := { tmps := #[.agg (prCells ⟨C, cnZero, false, j, room, some ⟨g, 0, none⟩, 1, 1, none, 0, 0, 0, ByteArray.empty, ByteArray.empty, ByteArray.empty, ByteArray.empty⟩), .int .i64 1, .pointer (some ⟨w.heap.size, 0, none⟩), undef, .int .i64 0, .pointer (some ⟨w.heap.size, 0, none⟩), .agg (cnCells C), .int .i64 1, .int .i64 1, undef, undef, undef, undef, undef, undef, undef, undef, undef, undef, undef, undef, undef], defers := [] }) (by kernel_rfl) ?_
  refine step_val (w' := qw1) rfl (.int .i64 1) (by kernel_rfl) ?_
  refine wpList_frame (a' := { tmps := #[.agg (prCells ⟨C, cnZero, false, j, room, some ⟨g, 0, none⟩, 1, 1, none, 0, 0, 0, ByteArray.empty, ByteArray.empty, ByteArray.empty, ByteArray.empty⟩), .int .i64 1, .pointer (some ⟨w.heap.size, 0, none⟩), undef, .int .i64 0, .pointer (some ⟨w.heap.size, 0, none⟩), .agg (cnCells C), .int .i64 1, .int .i64 1, undef, undef, undef, undef, undef, undef, undef, undef, undef, undef, undef, undef, undef], defers := [] }) (by kernel_rfl) ?_
  go_upto_region 2 with (fail)
  refine wp_region_lit ?_
  refine step_val (w' := qw1) rfl (.pointer (some ⟨w.heap.size, 37, none⟩)) (by kernel_rfl) ?_
  refine load_pb cn_big A rfl _ rfl rfl ?_
  refine move_step rfl _ rfl ?_
  refine call_step rfl 25 #[.agg (cnCells cnZero), .int .i64 1] (by kernel_rfl) (mark0 cnZero ⟨rfl, rfl, rfl⟩ _) ?_
  rintro _ qw3 ⟨rfl, qg4⟩
  refine ⟨_, rfl, ?_⟩
  replace A := A.since qg4
  replace L := L.since qg4
  replace G := G.trans (Touch.of_since qg4 g)
  have qg4_s := qg4.size
  refine wpList_frame (a' := { tmps := #[.agg (prCells ⟨C, cnZero, false, j, room, some ⟨g, 0, none⟩, 1, 1, none, 0, 0, 0, ByteArray.empty, ByteArray.empty, ByteArray.empty, ByteArray.empty⟩), .int .i64 1, .pointer (some ⟨w.heap.size, 0, none⟩), undef, .int .i64 0, .pointer (some ⟨w.heap.size, 0, none⟩), .agg (cnCells C), .int .i64 1, .int .i64 1, .pointer (some ⟨w.heap.size, 37, none⟩), .agg (cnCells cnZero), .int .i64 1, .int .i64 1, undef, undef, undef, undef, undef, undef, undef, undef, undef], defers := [] }) (by kernel_rfl) ?_
  refine step_val (w' := qw3) rfl (.int .i64 1) (by kernel_rfl) ?_
  refine wpList_frame (a' := { tmps := #[.agg (prCells ⟨C, cnZero, false, j, room, some ⟨g, 0, none⟩, 1, 1, none, 0, 0, 0, ByteArray.empty, ByteArray.empty, ByteArray.empty, ByteArray.empty⟩), .int .i64 1, .pointer (some ⟨w.heap.size, 0, none⟩), undef, .int .i64 0, .pointer (some ⟨w.heap.size, 0, none⟩), .agg (cnCells C), .int .i64 1, .int .i64 1, .pointer (some ⟨w.heap.size, 37, none⟩), .agg (cnCells cnZero), .int .i64 1, .int .i64 1, undef, undef, undef, undef, undef, undef, undef, undef, undef], defers := [] }) (by kernel_rfl) ?_
  go_upto_region 3 with (fail)
  refine wp_region_lit ?_
  refine step_val (w' := qw3) rfl (.pointer (some ⟨w.heap.size, 77, none⟩)) (by kernel_rfl) ?_
  refine load_cell rfl _ _ rfl _ rfl (.slice (some ⟨g, 0, none⟩) 1 1) (show qw3.cell? ⟨w.heap.size, 77, none⟩ = some (.slice (some ⟨g, 0, none⟩) 1 1) from (A.cell 77).trans (pr_tl _ 3 _ rfl)) (by kernel_rfl) ?_
  refine move_step rfl _ rfl ?_
  refine call_step rfl 26 #[.slice (some ⟨g, 0, none⟩) 1 1, .int .i64 1] (by kernel_rfl) (markSegs _ g _ _ _ 1 (by omega) (by omega) _ L) ?_
  have L_2 := L.low'
  rintro _ qw5 ⟨rfl, qt6, ms, hM, Ln⟩
  refine ⟨_, rfl, ?_⟩
  clear L
  have L := Ln
  clear Ln
  replace A := A.touch qt6 (by omega)
  replace G := G.trans qt6
  have qt6_s := qt6.size
  refine wpList_frame (a' := { tmps := #[.agg (prCells ⟨C, cnZero, false, j, room, some ⟨g, 0, none⟩, 1, 1, none, 0, 0, 0, ByteArray.empty, ByteArray.empty, ByteArray.empty, ByteArray.empty⟩), .int .i64 1, .pointer (some ⟨w.heap.size, 0, none⟩), undef, .int .i64 0, .pointer (some ⟨w.heap.size, 0, none⟩), .agg (cnCells C), .int .i64 1, .int .i64 1, .pointer (some ⟨w.heap.size, 37, none⟩), .agg (cnCells cnZero), .int .i64 1, .int .i64 1, .pointer (some ⟨w.heap.size, 77, none⟩), .slice (some ⟨g, 0, none⟩) 1 1, .int .i64 1, .int .i64 (1 + 8 * ((1 : Nat) : Int)), undef, undef, undef, undef, undef], defers := [] }) (by kernel_rfl) ?_
  refine step_val (w' := qw5) rfl (.int .i64 (1 + 8 * ((1 : Nat) : Int))) (by kernel_rfl) ?_
  refine wpList_frame (a' := { tmps := #[.agg (prCells ⟨C, cnZero, false, j, room, some ⟨g, 0, none⟩, 1, 1, none, 0, 0, 0, ByteArray.empty, ByteArray.empty, ByteArray.empty, ByteArray.empty⟩), .int .i64 (1 + 8 * ((1 : Nat) : Int)), .pointer (some ⟨w.heap.size, 0, none⟩), undef, .int .i64 0, .pointer (some ⟨w.heap.size, 0, none⟩), .agg (cnCells C), .int .i64 1, .int .i64 1, .pointer (some ⟨w.heap.size, 37, none⟩), .agg (cnCells cnZero), .int .i64 1, .int .i64 1, .pointer (some ⟨w.heap.size, 77, none⟩), .slice (some ⟨g, 0, none⟩) 1 1, .int .i64 1, .int .i64 (1 + 8 * ((1 : Nat) : Int)), undef, undef, undef, undef, undef], defers := [] }) (by kernel_rfl) ?_
  go_upto_region 4 with (fail)
  refine wp_region_lit ?_
  refine step_val (w' := qw5) rfl (.pointer (some ⟨w.heap.size, 78, none⟩)) (by kernel_rfl) ?_
  refine load_cell rfl _ _ rfl _ rfl (.slice none 0 0) (show qw5.cell? ⟨w.heap.size, 78, none⟩ = some (.slice none 0 0) from (A.cell 78).trans (pr_tl _ 4 _ rfl)) (by kernel_rfl) ?_
  refine move_step rfl _ rfl ?_
  refine call_step rfl 26 #[.slice none 0 0, .int .i64 (1 + 8 * ((1 : Nat) : Int))] (by kernel_rfl) (markNil _ _) ?_
  rintro _ qw7 ⟨rfl, qg8⟩
  refine ⟨_, rfl, ?_⟩
  replace A := A.since qg8
  replace L := L.since qg8
  replace G := G.trans (Touch.of_since qg8 g)
  have qg8_s := qg8.size
  refine wpList_frame (a' := { tmps := #[.agg (prCells ⟨C, cnZero, false, j, room, some ⟨g, 0, none⟩, 1, 1, none, 0, 0, 0, ByteArray.empty, ByteArray.empty, ByteArray.empty, ByteArray.empty⟩), .int .i64 (1 + 8 * ((1 : Nat) : Int)), .pointer (some ⟨w.heap.size, 0, none⟩), undef, .int .i64 0, .pointer (some ⟨w.heap.size, 0, none⟩), .agg (cnCells C), .int .i64 1, .int .i64 1, .pointer (some ⟨w.heap.size, 37, none⟩), .agg (cnCells cnZero), .int .i64 1, .int .i64 1, .pointer (some ⟨w.heap.size, 77, none⟩), .slice (some ⟨g, 0, none⟩) 1 1, .int .i64 1, .int .i64 (1 + 8 * ((1 : Nat) : Int)), .pointer (some ⟨w.heap.size, 78, none⟩), .slice none 0 0, .int .i64 (1 + 8 * ((1 : Nat) : Int)), .int .i64 (1 + 8 * ((1 : Nat) : Int)), undef], defers := [] }) (by kernel_rfl) ?_
  refine step_val (w' := qw7) rfl (.int .i64 (1 + 8 * ((1 : Nat) : Int))) (by kernel_rfl) ?_
  refine wpList_frame (a' := { tmps := #[.agg (prCells ⟨C, cnZero, false, j, room, some ⟨g, 0, none⟩, 1, 1, none, 0, 0, 0, ByteArray.empty, ByteArray.empty, ByteArray.empty, ByteArray.empty⟩), .int .i64 (1 + 8 * ((1 : Nat) : Int)), .pointer (some ⟨w.heap.size, 0, none⟩), undef, .int .i64 0, .pointer (some ⟨w.heap.size, 0, none⟩), .agg (cnCells C), .int .i64 1, .int .i64 1, .pointer (some ⟨w.heap.size, 37, none⟩), .agg (cnCells cnZero), .int .i64 1, .int .i64 1, .pointer (some ⟨w.heap.size, 77, none⟩), .slice (some ⟨g, 0, none⟩) 1 1, .int .i64 1, .int .i64 (1 + 8 * ((1 : Nat) : Int)), .pointer (some ⟨w.heap.size, 78, none⟩), .slice none 0 0, .int .i64 (1 + 8 * ((1 : Nat) : Int)), .int .i64 (1 + 8 * ((1 : Nat) : Int)), undef], defers := [] }) (by kernel_rfl) ?_
  go_wp2_with (fail)
  go_ret
  exact ⟨rfl, G, ms, hM, L⟩

set_option maxRecDepth 20000 in
set_option maxHeartbeats 8000000 in
theorem heldPr (C : Cn) (hC : NoParts C) (j room : Int) (B g : Nat) (ms : List Sg) (w : World) (L : Held shG w B g 1 1 ms) (hM : MarkedG 1 1 ms) :
    Calls Try.prog 17 #[.agg (prCells ⟨C, cnZero, false, j, room, some ⟨g, 0, none⟩, 1, 1, none, 0, 0, 0, ByteArray.empty, ByteArray.empty, ByteArray.empty, ByteArray.empty⟩), .int .i64 1] w fun e w' => e = .returned (.int .i64 (1 + 8 * ((1 : Nat) : Int))) ∧ Since w w' := by
  have A := Blk.new w (prCells ⟨C, cnZero, false, j, room, some ⟨g, 0, none⟩, 1, 1, none, 0, 0, 0, ByteArray.empty, ByteArray.empty, ByteArray.empty, ByteArray.empty⟩) 37
  have G0 := (Since.refl w).alloc (.cells (prCells ⟨C, cnZero, false, j, room, some ⟨g, 0, none⟩, 1, 1, none, 0, 0, 0, ByteArray.empty, ByteArray.empty, ByteArray.empty, ByteArray.empty⟩) 37)
  have hg := L.lt
  replace L := L.since G0
  go_enter Try.func17, Try.ntmps17
  go_upto_region 1 with (fail)
  generalize w.alloc (.cells (prCells ⟨C, cnZero, false, j, room, some ⟨g, 0, none⟩, 1, 1, none, 0, 0, 0, ByteArray.empty, ByteArray.empty, ByteArray.empty, ByteArray.empty⟩) 37) = x0 at A G0 L ⊢
  have G := G0
  refine wp_region_lit ?_
  refine step_val (w' := x0) rfl (.pointer (some ⟨w.heap.size, 0, none⟩)) (by kernel_rfl) ?_
  refine load_pa cn_big A rfl _ rfl rfl ?_
  refine move_step rfl _ rfl ?_
  refine call_step rfl 27 #[.agg (cnCells C), .int .i64 1] (by kernel_rfl) (held0 C hC _) ?_
  rintro _ qw1 ⟨rfl, qg2⟩
  refine ⟨_, rfl, ?_⟩
  replace A := A.since qg2
  replace L := L.since qg2
  replace G := G.trans qg2
  have qg2_s := qg2.size
  refine wpList_frame (a' := { tmps := #[.agg (prCells ⟨C, cnZero, false, j, room, some ⟨g, 0, none⟩, 1, 1, none, 0, 0, 0, ByteArray.empty, ByteArray.empty, ByteArray.empty, ByteArray.empty⟩), .int .i64 1, .pointer (some ⟨w.heap.size, 0, none⟩), undef, .int .i64 0, .pointer (some ⟨w.heap.size, 0, none⟩), .agg (cnCells C), .int .i64 1, .int .i64 1, undef, undef, undef, undef, undef, undef, undef, undef, undef, undef, undef, undef, undef, undef, undef, undef, undef, undef, undef, undef, undef], defers := [] }) (by kernel_rfl) ?_
  refine step_val (w' := qw1) rfl (.int .i64 1) (by kernel_rfl) ?_
  refine wpList_frame (a' := { tmps := #[.agg (prCells ⟨C, cnZero, false, j, room, some ⟨g, 0, none⟩, 1, 1, none, 0, 0, 0, ByteArray.empty, ByteArray.empty, ByteArray.empty, ByteArray.empty⟩), .int .i64 1, .pointer (some ⟨w.heap.size, 0, none⟩), undef, .int .i64 0, .pointer (some ⟨w.heap.size, 0, none⟩), .agg (cnCells C), .int .i64 1, .int .i64 1, undef, undef, undef, undef, undef, undef, undef, undef, undef, undef, undef, undef, undef, undef, undef, undef, undef, undef, undef, undef, undef], defers := [] }) (by kernel_rfl) ?_
  go_upto_region 4 with (fail)
  refine wp_region_lit ?_
  refine step_val (w' := qw1) rfl (.pointer (some ⟨w.heap.size, 37, none⟩)) (by kernel_rfl) ?_
  refine load_pb cn_big A rfl _ rfl rfl ?_
  refine move_step rfl _ rfl ?_
  refine call_step rfl 27 #[.agg (cnCells cnZero), .int .i64 1] (by kernel_rfl) (held0 cnZero ⟨rfl, rfl, rfl⟩ _) ?_
  rintro _ qw3 ⟨rfl, qg4⟩
  refine ⟨_, rfl, ?_⟩
  replace A := A.since qg4
  replace L := L.since qg4
  replace G := G.trans qg4
  have qg4_s := qg4.size
  refine wpList_frame (a' := { tmps := #[.agg (prCells ⟨C, cnZero, false, j, room, some ⟨g, 0, none⟩, 1, 1, none, 0, 0, 0, ByteArray.empty, ByteArray.empty, ByteArray.empty, ByteArray.empty⟩), .int .i64 1, .pointer (some ⟨w.heap.size, 0, none⟩), undef, .int .i64 0, .pointer (some ⟨w.heap.size, 0, none⟩), .agg (cnCells C), .int .i64 1, .int .i64 1, .int .i64 1, .bool false, .pointer (some ⟨w.heap.size, 37, none⟩), .agg (cnCells cnZero), .int .i64 1, .int .i64 1, undef, undef, undef, undef, undef, undef, undef, undef, undef, undef, undef, undef, undef, undef, undef], defers := [] }) (by kernel_rfl) ?_
  refine step_val (w' := qw3) rfl (.int .i64 1) (by kernel_rfl) ?_
  refine wpList_frame (a' := { tmps := #[.agg (prCells ⟨C, cnZero, false, j, room, some ⟨g, 0, none⟩, 1, 1, none, 0, 0, 0, ByteArray.empty, ByteArray.empty, ByteArray.empty, ByteArray.empty⟩), .int .i64 1, .pointer (some ⟨w.heap.size, 0, none⟩), undef, .int .i64 0, .pointer (some ⟨w.heap.size, 0, none⟩), .agg (cnCells C), .int .i64 1, .int .i64 1, .int .i64 1, .bool false, .pointer (some ⟨w.heap.size, 37, none⟩), .agg (cnCells cnZero), .int .i64 1, .int .i64 1, undef, undef, undef, undef, undef, undef, undef, undef, undef, undef, undef, undef, undef, undef, undef], defers := [] }) (by kernel_rfl) ?_
  go_upto_region 7 with (fail)
  refine wp_region_lit ?_
  refine step_val (w' := qw3) rfl (.pointer (some ⟨w.heap.size, 77, none⟩)) (by kernel_rfl) ?_
  refine load_cell rfl _ _ rfl _ rfl (.slice (some ⟨g, 0, none⟩) 1 1) (show qw3.cell? ⟨w.heap.size, 77, none⟩ = some (.slice (some ⟨g, 0, none⟩) 1 1) from (A.cell 77).trans (pr_tl _ 3 _ rfl)) (by kernel_rfl) ?_
  refine move_step rfl _ rfl ?_
  refine call_step rfl 28 #[.slice (some ⟨g, 0, none⟩) 1 1, .int .i64 1] (by kernel_rfl) (heldSegs _ g _ _ _ 1 (by omega) (by omega) _ L hM) ?_
  rintro _ qw5 ⟨rfl, qg6⟩
  refine ⟨_, rfl, ?_⟩
  replace A := A.since qg6
  replace L := L.since qg6
  replace G := G.trans qg6
  have qg6_s := qg6.size
  refine wpList_frame (a' := { tmps := #[.agg (prCells ⟨C, cnZero, false, j, room, some ⟨g, 0, none⟩, 1, 1, none, 0, 0, 0, ByteArray.empty, ByteArray.empty, ByteArray.empty, ByteArray.empty⟩), .int .i64 1, .pointer (some ⟨w.heap.size, 0, none⟩), undef, .int .i64 0, .pointer (some ⟨w.heap.size, 0, none⟩), .agg (cnCells C), .int .i64 1, .int .i64 1, .int .i64 1, .bool false, .pointer (some ⟨w.heap.size, 37, none⟩), .agg (cnCells cnZero), .int .i64 1, .int .i64 1, .int .i64 1, .bool false, .pointer (some ⟨w.heap.size, 77, none⟩), .slice (some ⟨g, 0, none⟩) 1 1, .int .i64 1, .int .i64 (1 + 8 * ((1 : Nat) : Int)), undef, undef, undef, undef, undef, undef, undef, undef, undef], defers := [] }) (by kernel_rfl) ?_
  refine step_val (w' := qw5) rfl (.int .i64 (1 + 8 * ((1 : Nat) : Int))) (by kernel_rfl) ?_
  refine wpList_frame (a' := { tmps := #[.agg (prCells ⟨C, cnZero, false, j, room, some ⟨g, 0, none⟩, 1, 1, none, 0, 0, 0, ByteArray.empty, ByteArray.empty, ByteArray.empty, ByteArray.empty⟩), .int .i64 (1 + 8 * ((1 : Nat) : Int)), .pointer (some ⟨w.heap.size, 0, none⟩), undef, .int .i64 0, .pointer (some ⟨w.heap.size, 0, none⟩), .agg (cnCells C), .int .i64 1, .int .i64 1, .int .i64 1, .bool false, .pointer (some ⟨w.heap.size, 37, none⟩), .agg (cnCells cnZero), .int .i64 1, .int .i64 1, .int .i64 1, .bool false, .pointer (some ⟨w.heap.size, 77, none⟩), .slice (some ⟨g, 0, none⟩) 1 1, .int .i64 1, .int .i64 (1 + 8 * ((1 : Nat) : Int)), undef, undef, undef, undef, undef, undef, undef, undef, undef], defers := [] }) (by kernel_rfl) ?_
  go_upto_region 10 with (fail)
  refine wp_region_lit ?_
  refine step_val (w' := qw5) rfl (.pointer (some ⟨w.heap.size, 78, none⟩)) (by kernel_rfl) ?_
  refine load_cell rfl _ _ rfl _ rfl (.slice none 0 0) (show qw5.cell? ⟨w.heap.size, 78, none⟩ = some (.slice none 0 0) from (A.cell 78).trans (pr_tl _ 4 _ rfl)) (by kernel_rfl) ?_
  refine move_step rfl _ rfl ?_
  refine call_step rfl 28 #[.slice none 0 0, .int .i64 (1 + 8 * ((1 : Nat) : Int))] (by kernel_rfl) (heldNil _ _) ?_
  rintro _ qw7 ⟨rfl, qg8⟩
  refine ⟨_, rfl, ?_⟩
  replace A := A.since qg8
  replace L := L.since qg8
  replace G := G.trans qg8
  have qg8_s := qg8.size
  refine wpList_frame (a' := { tmps := #[.agg (prCells ⟨C, cnZero, false, j, room, some ⟨g, 0, none⟩, 1, 1, none, 0, 0, 0, ByteArray.empty, ByteArray.empty, ByteArray.empty, ByteArray.empty⟩), .int .i64 (1 + 8 * ((1 : Nat) : Int)), .pointer (some ⟨w.heap.size, 0, none⟩), undef, .int .i64 0, .pointer (some ⟨w.heap.size, 0, none⟩), .agg (cnCells C), .int .i64 1, .int .i64 1, .int .i64 1, .bool false, .pointer (some ⟨w.heap.size, 37, none⟩), .agg (cnCells cnZero), .int .i64 1, .int .i64 1, .int .i64 1, .bool false, .pointer (some ⟨w.heap.size, 77, none⟩), .slice (some ⟨g, 0, none⟩) 1 1, .int .i64 1, .int .i64 (1 + 8 * ((1 : Nat) : Int)), .int .i64 (1 + 8 * ((1 : Nat) : Int)), .bool false, .pointer (some ⟨w.heap.size, 78, none⟩), .slice none 0 0, .int .i64 (1 + 8 * ((1 : Nat) : Int)), .int .i64 (1 + 8 * ((1 : Nat) : Int)), undef, undef, undef], defers := [] }) (by kernel_rfl) ?_
  refine step_val (w' := qw7) rfl (.int .i64 (1 + 8 * ((1 : Nat) : Int))) (by kernel_rfl) ?_
  refine wpList_frame (a' := { tmps := #[.agg (prCells ⟨C, cnZero, false, j, room, some ⟨g, 0, none⟩, 1, 1, none, 0, 0, 0, ByteArray.empty, ByteArray.empty, ByteArray.empty, ByteArray.empty⟩), .int .i64 (1 + 8 * ((1 : Nat) : Int)), .pointer (some ⟨w.heap.size, 0, none⟩), undef, .int .i64 0, .pointer (some ⟨w.heap.size, 0, none⟩), .agg (cnCells C), .int .i64 1, .int .i64 1, .int .i64 1, .bool false, .pointer (some ⟨w.heap.size, 37, none⟩), .agg (cnCells cnZero), .int .i64 1, .int .i64 1, .int .i64 1, .bool false, .pointer (some ⟨w.heap.size, 77, none⟩), .slice (some ⟨g, 0, none⟩) 1 1, .int .i64 1, .int .i64 (1 + 8 * ((1 : Nat) : Int)), .int .i64 (1 + 8 * ((1 : Nat) : Int)), .bool false, .pointer (some ⟨w.heap.size, 78, none⟩), .slice none 0 0, .int .i64 (1 + 8 * ((1 : Nat) : Int)), .int .i64 (1 + 8 * ((1 : Nat) : Int)), undef, undef, undef], defers := [] }) (by kernel_rfl) ?_
  go_wp2_with (fail)
  go_ret
  exact ⟨rfl, G⟩
end Go.Proofs.Ytomnjegldbopiaa
