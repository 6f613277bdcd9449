/-
  Whether nothing more happens between two ends, as both tell it.
-/
import Derived.Test.YtoadnhkbejnimaaPairV
import Derived.Test.YtoadnhkbejnimaaVeilW
import Derived.Test.YtoadnhkbejnimaaStep
import Derived.Great.BuildSlice
import Derived.Deep.DeepCutAuto
namespace Go.Proofs.Ytoadnhkbejnimaa
open Go.ChangeShapes Go.WideShapes Go.ChangeAt Go.RowKit
set_option linter.unusedVariables false
set_option maxRecDepth 10000

/-- Whether an end waits for something. -/
def waitsB (c : Cn) : Bool := decide (c.agn ≠ 0) || (decide (c.prb ≠ 0) || decide (c.rst ≠ 0))

/-- Whether nothing more happens. -/
def overB (p : Pr) : Bool := decide (p.an = 0) && (decide (p.bn = 0) && (!waitsB p.a && !waitsB p.b))

/-- The nearer of two ticks, 0 for none. -/
def dueN (d x : Int) : Int := if x ≠ 0 ∧ (d = 0 ∨ x < d) then x else d

/-- What is due first. -/
def dueC (c : Cn) : Int := dueN (dueN (dueN 0 c.agn) c.prb) c.rst

theorem due_waits (c : Cn) : (dueC c == 0) = !waitsB c := by
  unfold dueC dueN waitsB
  by_cases h1 : c.agn = 0 <;> by_cases h2 : c.prb = 0 <;> by_cases h3 : c.rst = 0 <;> simp [h1, h2, h3] <;> (repeat' split) <;> simp_all <;> omega

set_option maxRecDepth 20000 in
set_option maxHeartbeats 8000000 in
theorem implWaits (c : Cn) (w : World) : Calls Try.prog 27 #[.agg (cnCells c)] w fun e w' => e = .returned (.bool (waitsB c)) ∧ Since w w' := by
  obtain ⟨v, hv⟩ : ∃ q, Hid (q = waitsB c) := ⟨_, rfl⟩
  rw [← hv.out]
  obtain ⟨b1, h1⟩ : ∃ q, Hid (q = (c.agn != 0)) := ⟨_, rfl⟩
  obtain ⟨b2, h2⟩ : ∃ q, Hid (q = (c.prb != 0)) := ⟨_, rfl⟩
  obtain ⟨b3, h3⟩ : ∃ q, Hid (q = (c.rst != 0)) := ⟨_, rfl⟩
  have G := (Since.refl w).alloc (.cells (cnCells c) 33)
  have A := Blk.new w (cnCells c) 33
  go_enter Try.func27, Try.ntmps27
  go_upto_region 1 with (fail)
  generalize w.alloc (.cells (cnCells c) 33) = x0 at A G ⊢
  cases b1
  case true =>
    refine lw_region ?_
    refine lw_val (w' := x0) (by kernel_rfl) (.pointer (some ⟨w.heap.size, 31, none⟩)) (by kernel_rfl) ?_
    refine lw_cell (by kernel_rfl) _ _ rfl ⟨w.heap.size, 31, none⟩ rfl (.int .i64 c.agn) (show x0.cell? ⟨w.heap.size, 31, none⟩ = some (.int .i64 c.agn) from A.cell 31) (by kernel_rfl) ?_
    refine lw_val (w' := x0) (by kernel_rfl) (.bool true) (by rw [show true = (c.agn != 0) from h1.out]; kernel_rfl) ?_
    refine lw_frame (a' := { tmps := #[.agg (cnCells c), .pointer (some ⟨w.heap.size, 0, none⟩), .bool false, .pointer (some ⟨w.heap.size, 31, none⟩), .int .i64 c.agn, .bool true, undef, undef, undef, undef, undef, undef, undef, undef, undef, undef], defers := [] }) (by kernel_rfl) ?_
    refine lw_val (w' := x0) (by kernel_rfl) (.bool true) (by kernel_rfl) ?_
    refine lw_skip (by kernel_rfl) ?_
    refine lw_skip (by kernel_rfl) ?_
    refine lw_frame (a' := { tmps := #[.agg (cnCells c), .pointer (some ⟨w.heap.size, 0, none⟩), .bool false, .pointer (some ⟨w.heap.size, 31, none⟩), .int .i64 c.agn, .bool true, .bool true, undef, undef, undef, undef, undef, undef, undef, undef, undef], defers := [] }) (by kernel_rfl) ?_
    refine lw_skip (by kernel_rfl) ?_
    refine lw_val (w' := x0) (by kernel_rfl) (.bool true) (by kernel_rfl) ?_
    refine lw_val (w' := x0) (by kernel_rfl) (.bool true) (by kernel_rfl) ?_
    refine lw_frame (a' := { tmps := #[.agg (cnCells c), .pointer (some ⟨w.heap.size, 0, none⟩), .bool false, .pointer (some ⟨w.heap.size, 31, none⟩), .int .i64 c.agn, .bool true, .bool true, undef, undef, undef, .bool true, .bool true, undef, undef, undef, undef], defers := [] }) (by kernel_rfl) ?_
    refine lw_skip (by kernel_rfl) ?_
    refine lw_skip (by kernel_rfl) ?_
    refine lw_skip (by kernel_rfl) ?_
    refine lw_frame (a' := { tmps := #[.agg (cnCells c), .pointer (some ⟨w.heap.size, 0, none⟩), .bool false, .pointer (some ⟨w.heap.size, 31, none⟩), .int .i64 c.agn, .bool true, .bool true, undef, undef, undef, .bool true, .bool true, undef, undef, undef, undef], defers := [] }) (by kernel_rfl) ?_
    refine lw_val (w' := x0) (by kernel_rfl) (.bool true) (by kernel_rfl) ?_
    refine lw_val (w' := x0) (by kernel_rfl) (.bool true) (by kernel_rfl) ?_
    refine lw_frame (a' := { tmps := #[.agg (cnCells c), .pointer (some ⟨w.heap.size, 0, none⟩), .bool true, .pointer (some ⟨w.heap.size, 31, none⟩), .int .i64 c.agn, .bool true, .bool true, undef, undef, undef, .bool true, .bool true, undef, undef, undef, .bool true], defers := [] }) (by kernel_rfl) ?_
    refine LW.mk ?_
    go_wp2_with (fail)
    go_ret
    exact ⟨by rw [show v = true from hv.out.trans (by unfold waitsB; rw [decide_eq_true (show c.agn ≠ 0 by simpa using h1.out.symm)]; rfl)]; rfl, G⟩
  case false =>
    cases b2
    case true =>
      refine lw_region ?_
      refine lw_val (w' := x0) (by kernel_rfl) (.pointer (some ⟨w.heap.size, 31, none⟩)) (by kernel_rfl) ?_
      refine lw_cell (by kernel_rfl) _ _ rfl ⟨w.heap.size, 31, none⟩ rfl (.int .i64 c.agn) (show x0.cell? ⟨w.heap.size, 31, none⟩ = some (.int .i64 c.agn) from A.cell 31) (by kernel_rfl) ?_
      refine lw_val (w' := x0) (by kernel_rfl) (.bool false) (by rw [show false = (c.agn != 0) from h1.out]; kernel_rfl) ?_
      refine lw_frame (a' := { tmps := #[.agg (cnCells c), .pointer (some ⟨w.heap.size, 0, none⟩), .bool false, .pointer (some ⟨w.heap.size, 31, none⟩), .int .i64 c.agn, .bool false, undef, undef, undef, undef, undef, undef, undef, undef, undef, undef], defers := [] }) (by kernel_rfl) ?_
      refine lw_val (w' := x0) (by kernel_rfl) (.bool false) (by kernel_rfl) ?_
      refine lw_val (w' := x0) (by kernel_rfl) (.pointer (some ⟨w.heap.size, 32, none⟩)) (by kernel_rfl) ?_
      refine lw_cell (by kernel_rfl) _ _ rfl ⟨w.heap.size, 32, none⟩ rfl (.int .i64 c.prb) (show x0.cell? ⟨w.heap.size, 32, none⟩ = some (.int .i64 c.prb) from A.cell 32) (by kernel_rfl) ?_
      refine lw_frame (a' := { tmps := #[.agg (cnCells c), .pointer (some ⟨w.heap.size, 0, none⟩), .bool false, .pointer (some ⟨w.heap.size, 31, none⟩), .int .i64 c.agn, .bool false, .bool false, .pointer (some ⟨w.heap.size, 32, none⟩), .int .i64 c.prb, undef, undef, undef, undef, undef, undef, undef], defers := [] }) (by kernel_rfl) ?_
      refine lw_val (w' := x0) (by kernel_rfl) (.bool true) (by rw [show true = (c.prb != 0) from h2.out]; kernel_rfl) ?_
      refine lw_val (w' := x0) (by kernel_rfl) (.bool true) (by kernel_rfl) ?_
      refine lw_val (w' := x0) (by kernel_rfl) (.bool true) (by kernel_rfl) ?_
      refine lw_frame (a' := { tmps := #[.agg (cnCells c), .pointer (some ⟨w.heap.size, 0, none⟩), .bool false, .pointer (some ⟨w.heap.size, 31, none⟩), .int .i64 c.agn, .bool false, .bool false, .pointer (some ⟨w.heap.size, 32, none⟩), .int .i64 c.prb, .bool true, .bool true, .bool true, undef, undef, undef, undef], defers := [] }) (by kernel_rfl) ?_
      refine lw_skip (by kernel_rfl) ?_
      refine lw_skip (by kernel_rfl) ?_
      refine lw_skip (by kernel_rfl) ?_
      refine lw_frame (a' := { tmps := #[.agg (cnCells c), .pointer (some ⟨w.heap.size, 0, none⟩), .bool false, .pointer (some ⟨w.heap.size, 31, none⟩), .int .i64 c.agn, .bool false, .bool false, .pointer (some ⟨w.heap.size, 32, none⟩), .int .i64 c.prb, .bool true, .bool true, .bool true, undef, undef, undef, undef], defers := [] }) (by kernel_rfl) ?_
      refine lw_val (w' := x0) (by kernel_rfl) (.bool true) (by kernel_rfl) ?_
      refine lw_val (w' := x0) (by kernel_rfl) (.bool true) (by kernel_rfl) ?_
      refine lw_frame (a' := { tmps := #[.agg (cnCells c), .pointer (some ⟨w.heap.size, 0, none⟩), .bool true, .pointer (some ⟨w.heap.size, 31, none⟩), .int .i64 c.agn, .bool false, .bool false, .pointer (some ⟨w.heap.size, 32, none⟩), .int .i64 c.prb, .bool true, .bool true, .bool true, undef, undef, undef, .bool true], defers := [] }) (by kernel_rfl) ?_
      refine LW.mk ?_
      go_wp2_with (fail)
      go_ret
      exact ⟨by rw [show v = true from hv.out.trans (by unfold waitsB; rw [decide_eq_false (show ¬ c.agn ≠ 0 by simpa using h1.out.symm), decide_eq_true (show c.prb ≠ 0 by simpa using h2.out.symm)]; rfl)]; rfl, G⟩
    case false =>
      cases b3
      case true =>
        refine lw_region ?_
        refine lw_val (w' := x0) (by kernel_rfl) (.pointer (some ⟨w.heap.size, 31, none⟩)) (by kernel_rfl) ?_
        refine lw_cell (by kernel_rfl) _ _ rfl ⟨w.heap.size, 31, none⟩ rfl (.int .i64 c.agn) (show x0.cell? ⟨w.heap.size, 31, none⟩ = some (.int .i64 c.agn) from A.cell 31) (by kernel_rfl) ?_
        refine lw_val (w' := x0) (by kernel_rfl) (.bool false) (by rw [show false = (c.agn != 0) from h1.out]; kernel_rfl) ?_
        refine lw_frame (a' := { tmps := #[.agg (cnCells c), .pointer (some ⟨w.heap.size, 0, none⟩), .bool false, .pointer (some ⟨w.heap.size, 31, none⟩), .int .i64 c.agn, .bool false, undef, undef, undef, undef, undef, undef, undef, undef, undef, undef], defers := [] }) (by kernel_rfl) ?_
        refine lw_val (w' := x0) (by kernel_rfl) (.bool false) (by kernel_rfl) ?_
        refine lw_val (w' := x0) (by kernel_rfl) (.pointer (some ⟨w.heap.size, 32, none⟩)) (by kernel_rfl) ?_
        refine lw_cell (by kernel_rfl) _ _ rfl ⟨w.heap.size, 32, none⟩ rfl (.int .i64 c.prb) (show x0.cell? ⟨w.heap.size, 32, none⟩ = some (.int .i64 c.prb) from A.cell 32) (by kernel_rfl) ?_
        refine lw_frame (a' := { tmps := #[.agg (cnCells c), .pointer (some ⟨w.heap.size, 0, none⟩), .bool false, .pointer (some ⟨w.heap.size, 31, none⟩), .int .i64 c.agn, .bool false, .bool false, .pointer (some ⟨w.heap.size, 32, none⟩), .int .i64 c.prb, undef, undef, undef, undef, undef, undef, undef], defers := [] }) (by kernel_rfl) ?_
        refine lw_val (w' := x0) (by kernel_rfl) (.bool false) (by rw [show false = (c.prb != 0) from h2.out]; kernel_rfl) ?_
        refine lw_val (w' := x0) (by kernel_rfl) (.bool false) (by kernel_rfl) ?_
        refine lw_val (w' := x0) (by kernel_rfl) (.bool false) (by kernel_rfl) ?_
        refine lw_frame (a' := { tmps := #[.agg (cnCells c), .pointer (some ⟨w.heap.size, 0, none⟩), .bool false, .pointer (some ⟨w.heap.size, 31, none⟩), .int .i64 c.agn, .bool false, .bool false, .pointer (some ⟨w.heap.size, 32, none⟩), .int .i64 c.prb, .bool false, .bool false, .bool false, undef, undef, undef, undef], defers := [] }) (by kernel_rfl) ?_
        refine lw_val (w' := x0) (by kernel_rfl) (.pointer (some ⟨w.heap.size, 33, none⟩)) (by kernel_rfl) ?_
        refine lw_cell (by kernel_rfl) _ _ rfl ⟨w.heap.size, 33, none⟩ rfl (.int .i64 c.rst) (show x0.cell? ⟨w.heap.size, 33, none⟩ = some (.int .i64 c.rst) from A.cell 33) (by kernel_rfl) ?_
        refine lw_val (w' := x0) (by kernel_rfl) (.bool true) (by rw [show true = (c.rst != 0) from h3.out]; kernel_rfl) ?_
        refine lw_frame (a' := { tmps := #[.agg (cnCells c), .pointer (some ⟨w.heap.size, 0, none⟩), .bool false, .pointer (some ⟨w.heap.size, 31, none⟩), .int .i64 c.agn, .bool false, .bool false, .pointer (some ⟨w.heap.size, 32, none⟩), .int .i64 c.prb, .bool false, .bool false, .bool false, .pointer (some ⟨w.heap.size, 33, none⟩), .int .i64 c.rst, .bool true, undef], defers := [] }) (by kernel_rfl) ?_
        refine lw_val (w' := x0) (by kernel_rfl) (.bool true) (by kernel_rfl) ?_
        refine lw_val (w' := x0) (by kernel_rfl) (.bool true) (by kernel_rfl) ?_
        refine lw_frame (a' := { tmps := #[.agg (cnCells c), .pointer (some ⟨w.heap.size, 0, none⟩), .bool true, .pointer (some ⟨w.heap.size, 31, none⟩), .int .i64 c.agn, .bool false, .bool false, .pointer (some ⟨w.heap.size, 32, none⟩), .int .i64 c.prb, .bool false, .bool false, .bool false, .pointer (some ⟨w.heap.size, 33, none⟩), .int .i64 c.rst, .bool true, .bool true], defers := [] }) (by kernel_rfl) ?_
        refine LW.mk ?_
        go_wp2_with (fail)
        go_ret
        exact ⟨by rw [show v = true from hv.out.trans (by unfold waitsB; rw [decide_eq_false (show ¬ c.agn ≠ 0 by simpa using h1.out.symm), decide_eq_false (show ¬ c.prb ≠ 0 by simpa using h2.out.symm), decide_eq_true (show c.rst ≠ 0 by simpa using h3.out.symm)]; rfl)]; rfl, G⟩
      case false =>
        refine lw_region ?_
        refine lw_val (w' := x0) (by kernel_rfl) (.pointer (some ⟨w.heap.size, 31, none⟩)) (by kernel_rfl) ?_
        refine lw_cell (by kernel_rfl) _ _ rfl ⟨w.heap.size, 31, none⟩ rfl (.int .i64 c.agn) (show x0.cell? ⟨w.heap.size, 31, none⟩ = some (.int .i64 c.agn) from A.cell 31) (by kernel_rfl) ?_
        refine lw_val (w' := x0) (by kernel_rfl) (.bool false) (by rw [show false = (c.agn != 0) from h1.out]; kernel_rfl) ?_
        refine lw_frame (a' := { tmps := #[.agg (cnCells c), .pointer (some ⟨w.heap.size, 0, none⟩), .bool false, .pointer (some ⟨w.heap.size, 31, none⟩), .int .i64 c.agn, .bool false, undef, undef, undef, undef, undef, undef, undef, undef, undef, undef], defers := [] }) (by kernel_rfl) ?_
        refine lw_val (w' := x0) (by kernel_rfl) (.bool false) (by kernel_rfl) ?_
        refine lw_val (w' := x0) (by kernel_rfl) (.pointer (some ⟨w.heap.size, 32, none⟩)) (by kernel_rfl) ?_
        refine lw_cell (by kernel_rfl) _ _ rfl ⟨w.heap.size, 32, none⟩ rfl (.int .i64 c.prb) (show x0.cell? ⟨w.heap.size, 32, none⟩ = some (.int .i64 c.prb) from A.cell 32) (by kernel_rfl) ?_
        refine lw_frame (a' := { tmps := #[.agg (cnCells c), .pointer (some ⟨w.heap.size, 0, none⟩), .bool false, .pointer (some ⟨w.heap.size, 31, none⟩), .int .i64 c.agn, .bool false, .bool false, .pointer (some ⟨w.heap.size, 32, none⟩), .int .i64 c.prb, undef, undef, undef, undef, undef, undef, undef], defers := [] }) (by kernel_rfl) ?_
        refine lw_val (w' := x0) (by kernel_rfl) (.bool false) (by rw [show false = (c.prb != 0) from h2.out]; kernel_rfl) ?_
        refine lw_val (w' := x0) (by kernel_rfl) (.bool false) (by kernel_rfl) ?_
        refine lw_val (w' := x0) (by kernel_rfl) (.bool false) (by kernel_rfl) ?_
        refine lw_frame (a' := { tmps := #[.agg (cnCells c), .pointer (some ⟨w.heap.size, 0, none⟩), .bool false, .pointer (some ⟨w.heap.size, 31, none⟩), .int .i64 c.agn, .bool false, .bool false, .pointer (some ⟨w.heap.size, 32, none⟩), .int .i64 c.prb, .bool false, .bool false, .bool false, undef, undef, undef, undef], defers := [] }) (by kernel_rfl) ?_
        refine lw_val (w' := x0) (by kernel_rfl) (.pointer (some ⟨w.heap.size, 33, none⟩)) (by kernel_rfl) ?_
        refine lw_cell (by kernel_rfl) _ _ rfl ⟨w.heap.size, 33, none⟩ rfl (.int .i64 c.rst) (show x0.cell? ⟨w.heap.size, 33, none⟩ = some (.int .i64 c.rst) from A.cell 33) (by kernel_rfl) ?_
        refine lw_val (w' := x0) (by kernel_rfl) (.bool false) (by rw [show false = (c.rst != 0) from h3.out]; kernel_rfl) ?_
        refine lw_frame (a' := { tmps := #[.agg (cnCells c), .pointer (some ⟨w.heap.size, 0, none⟩), .bool false, .pointer (some ⟨w.heap.size, 31, none⟩), .int .i64 c.agn, .bool false, .bool false, .pointer (some ⟨w.heap.size, 32, none⟩), .int .i64 c.prb, .bool false, .bool false, .bool false, .pointer (some ⟨w.heap.size, 33, none⟩), .int .i64 c.rst, .bool false, undef], defers := [] }) (by kernel_rfl) ?_
        refine lw_val (w' := x0) (by kernel_rfl) (.bool false) (by kernel_rfl) ?_
        refine lw_val (w' := x0) (by kernel_rfl) (.bool false) (by kernel_rfl) ?_
        refine lw_frame (a' := { tmps := #[.agg (cnCells c), .pointer (some ⟨w.heap.size, 0, none⟩), .bool false, .pointer (some ⟨w.heap.size, 31, none⟩), .int .i64 c.agn, .bool false, .bool false, .pointer (some ⟨w.heap.size, 32, none⟩), .int .i64 c.prb, .bool false, .bool false, .bool false, .pointer (some ⟨w.heap.size, 33, none⟩), .int .i64 c.rst, .bool false, .bool false], defers := [] }) (by kernel_rfl) ?_
        refine LW.mk ?_
        go_wp2_with (fail)
        go_ret
        exact ⟨by rw [show v = false from hv.out.trans (by unfold waitsB; rw [decide_eq_false (show ¬ c.agn ≠ 0 by simpa using h1.out.symm), decide_eq_false (show ¬ c.prb ≠ 0 by simpa using h2.out.symm), decide_eq_false (show ¬ c.rst ≠ 0 by simpa using h3.out.symm)]; rfl)]; rfl, G⟩

/-- What is due first of the first so many. -/
def dueK (c : Cn) : Nat → Int
  | 0 => 0
  | 1 => dueN 0 c.agn
  | 2 => dueN (dueN 0 c.agn) c.prb
  | _ => dueC c

set_option maxRecDepth 20000 in
set_option maxHeartbeats 8000000 in
theorem specDue (c : Cn) (w : World) : Calls Try.prog 24 #[.agg (cnCells c)] w fun e w' => e = .returned (.int .i64 (dueC c)) ∧ Since w w' := by
  have G := (Since.refl w).alloc (.cells (cnCells c) 33)
  have A := Blk.new w (cnCells c) 33
  obtain ⟨D, hD⟩ : ∃ q, Hid (q = dueC c) := ⟨_, rfl⟩
  rw [← hD.out]
  go_enter Try.func24, Try.ntmps24
  go_upto_region 2 with (fail)
  generalize w.alloc (.cells (cnCells c) 33) = x0 at A G ⊢
  have f1 : x0.cell? ⟨w.heap.size, 31, none⟩ = some (.int .i64 c.agn) := A.cell 31
  have f2 : x0.cell? ⟨w.heap.size, 32, none⟩ = some (.int .i64 c.prb) := A.cell 32
  have f3 : x0.cell? ⟨w.heap.size, 33, none⟩ = some (.int .i64 c.rst) := A.cell 33
  have G1 := G.alloc (.cells #[.int .i64 c.agn, .int .i64 c.prb, .int .i64 c.rst] 3)
  have B := Blk.new x0 #[.int .i64 c.agn, .int .i64 c.prb, .int .i64 c.rst] 3
  go_upto_region 3 with (fail)
  clear f1 f2 f3
  generalize x0.alloc (.cells #[.int .i64 c.agn, .int .i64 c.prb, .int .i64 c.rst] 3) = x1 at B G1 ⊢
  generalize x0.heap.size = g at B ⊢
  have c0 : x1.cell? ⟨g, 0, none⟩ = some (.int .i64 c.agn) := B.cell 0
  have c1 : x1.cell? ⟨g, 1, none⟩ = some (.int .i64 c.prb) := B.cell 1
  have c2 : x1.cell? ⟨g, 2, none⟩ = some (.int .i64 c.rst) := B.cell 2
  clear B A G
  go_wp2
  go_loopw [3, 5] (fun q i wr => ∃ j : Nat, j ≤ 3 ∧ i = .int .i64 j ∧ q = .int .i64 (dueK c j) ∧ wr = x1) (fun _ i _ => 3 - (intOf i).toNat)
  case atStart => exact ⟨0, by omega, rfl, rfl, rfl⟩
  case round =>
    obtain ⟨j, hj, rfl, rfl, rfl⟩ := hrel
    rcases (show j = 0 ∨ j = 1 ∨ j = 2 ∨ j = 3 by omega) with rfl | rfl | rfl | rfl
    · obtain ⟨d, hd⟩ : ∃ q, Hid (q = dueK c 0) := ⟨_, rfl⟩
      obtain ⟨x, hx⟩ : ∃ q, Hid (q = c.agn) := ⟨_, rfl⟩
      rw [← hx.out] at c0
      rw [← hd.out]
      by_cases h1 : x = 0
      · have e1 : (x != 0) = false := by simp [h1]
        replace h1 : Hid _ := h1
        go_wp2
        go_roundw
        case rel =>
          refine ⟨1, by omega, by go_num, ?_, trivial⟩
          have e : dueK c 1 = dueN (dueK c 0) c.agn := rfl
          rw [e, ← hd.out, ← hx.out]
          unfold dueN
          rw [if_neg (fun q => q.1 h1.out)]
        case measure => simp [intOf]
      have e1 : (x != 0) = true := by simpa using h1
      by_cases h2 : d = 0
      · have e2 : (d == 0) = true := by simp [h2]
        replace h1 : Hid _ := h1
        replace h2 : Hid _ := h2
        go_wp2
        go_roundw
        case rel =>
          refine ⟨1, by omega, by go_num, ?_, trivial⟩
          have e : dueK c 1 = dueN (dueK c 0) c.agn := rfl
          rw [e, ← hd.out, ← hx.out]
          unfold dueN
          rw [if_pos ⟨h1.out, .inl h2.out⟩]
        case measure => simp [intOf]
      have e2 : (d == 0) = false := by simpa using h2
      by_cases h3 : x < d
      · replace h1 : Hid _ := h1
        replace h2 : Hid _ := h2
        go_wp2
        go_roundw
        case rel =>
          refine ⟨1, by omega, by go_num, ?_, trivial⟩
          have e : dueK c 1 = dueN (dueK c 0) c.agn := rfl
          rw [e, ← hd.out, ← hx.out]
          unfold dueN
          rw [if_pos ⟨h1.out, .inr h3⟩]
        case measure => simp [intOf]
      · replace h1 : Hid _ := h1
        replace h2 : Hid _ := h2
        go_wp2
        go_roundw
        case rel =>
          refine ⟨1, by omega, by go_num, ?_, trivial⟩
          have e : dueK c 1 = dueN (dueK c 0) c.agn := rfl
          rw [e, ← hd.out, ← hx.out]
          unfold dueN
          rw [if_neg (fun q => q.2.elim h2.out h3)]
        case measure => simp [intOf]
    · obtain ⟨d, hd⟩ : ∃ q, Hid (q = dueK c 1) := ⟨_, rfl⟩
      obtain ⟨x, hx⟩ : ∃ q, Hid (q = c.prb) := ⟨_, rfl⟩
      rw [← hx.out] at c1
      rw [← hd.out]
      by_cases h1 : x = 0
      · have e1 : (x != 0) = false := by simp [h1]
        replace h1 : Hid _ := h1
        go_wp2
        go_roundw
        case rel =>
          refine ⟨2, by omega, by go_num, ?_, trivial⟩
          have e : dueK c 2 = dueN (dueK c 1) c.prb := rfl
          rw [e, ← hd.out, ← hx.out]
          unfold dueN
          rw [if_neg (fun q => q.1 h1.out)]
        case measure => simp [intOf]
      have e1 : (x != 0) = true := by simpa using h1
      by_cases h2 : d = 0
      · have e2 : (d == 0) = true := by simp [h2]
        replace h1 : Hid _ := h1
        replace h2 : Hid _ := h2
        go_wp2
        go_roundw
        case rel =>
          refine ⟨2, by omega, by go_num, ?_, trivial⟩
          have e : dueK c 2 = dueN (dueK c 1) c.prb := rfl
          rw [e, ← hd.out, ← hx.out]
          unfold dueN
          rw [if_pos ⟨h1.out, .inl h2.out⟩]
        case measure => simp [intOf]
      have e2 : (d == 0) = false := by simpa using h2
      by_cases h3 : x < d
      · replace h1 : Hid _ := h1
        replace h2 : Hid _ := h2
        go_wp2
        go_roundw
        case rel =>
          refine ⟨2, by omega, by go_num, ?_, trivial⟩
          have e : dueK c 2 = dueN (dueK c 1) c.prb := rfl
          rw [e, ← hd.out, ← hx.out]
          unfold dueN
          rw [if_pos ⟨h1.out, .inr h3⟩]
        case measure => simp [intOf]
      · replace h1 : Hid _ := h1
        replace h2 : Hid _ := h2
        go_wp2
        go_roundw
        case rel =>
          refine ⟨2, by omega, by go_num, ?_, trivial⟩
          have e : dueK c 2 = dueN (dueK c 1) c.prb := rfl
          rw [e, ← hd.out, ← hx.out]
          unfold dueN
          rw [if_neg (fun q => q.2.elim h2.out h3)]
        case measure => simp [intOf]
    · obtain ⟨d, hd⟩ : ∃ q, Hid (q = dueK c 2) := ⟨_, rfl⟩
      obtain ⟨x, hx⟩ : ∃ q, Hid (q = c.rst) := ⟨_, rfl⟩
      rw [← hx.out] at c2
      rw [← hd.out]
      by_cases h1 : x = 0
      · have e1 : (x != 0) = false := by simp [h1]
        replace h1 : Hid _ := h1
        go_wp2
        go_roundw
        case rel =>
          refine ⟨3, by omega, by go_num, ?_, trivial⟩
          have e : dueK c 3 = dueN (dueK c 2) c.rst := rfl
          rw [e, ← hd.out, ← hx.out]
          unfold dueN
          rw [if_neg (fun q => q.1 h1.out)]
        case measure => simp [intOf]
      have e1 : (x != 0) = true := by simpa using h1
      by_cases h2 : d = 0
      · have e2 : (d == 0) = true := by simp [h2]
        replace h1 : Hid _ := h1
        replace h2 : Hid _ := h2
        go_wp2
        go_roundw
        case rel =>
          refine ⟨3, by omega, by go_num, ?_, trivial⟩
          have e : dueK c 3 = dueN (dueK c 2) c.rst := rfl
          rw [e, ← hd.out, ← hx.out]
          unfold dueN
          rw [if_pos ⟨h1.out, .inl h2.out⟩]
        case measure => simp [intOf]
      have e2 : (d == 0) = false := by simpa using h2
      by_cases h3 : x < d
      · replace h1 : Hid _ := h1
        replace h2 : Hid _ := h2
        go_wp2
        go_roundw
        case rel =>
          refine ⟨3, by omega, by go_num, ?_, trivial⟩
          have e : dueK c 3 = dueN (dueK c 2) c.rst := rfl
          rw [e, ← hd.out, ← hx.out]
          unfold dueN
          rw [if_pos ⟨h1.out, .inr h3⟩]
        case measure => simp [intOf]
      · replace h1 : Hid _ := h1
        replace h2 : Hid _ := h2
        go_wp2
        go_roundw
        case rel =>
          refine ⟨3, by omega, by go_num, ?_, trivial⟩
          have e : dueK c 3 = dueN (dueK c 2) c.rst := rfl
          rw [e, ← hd.out, ← hx.out]
          unfold dueN
          rw [if_neg (fun q => q.2.elim h2.out h3)]
        case measure => simp [intOf]
    · go_wp2
      go_ret
      exact ⟨by rw [hD.out]; rfl, G1⟩

set_option maxRecDepth 20000 in
set_option maxHeartbeats 8000000 in
theorem specOver (p : Pr) (w : World) : Calls Try.prog 11 #[.agg (prCells p)] w fun e w' => e = .returned (.bool (overB p)) ∧ Since w w' := by
  obtain ⟨v, hv⟩ : ∃ q, Hid (q = overB p) := ⟨_, rfl⟩
  rw [← hv.out]
  obtain ⟨b1, h1⟩ : ∃ q, Hid (q = ((p.an : Int) == 0)) := ⟨_, rfl⟩
  obtain ⟨b2, h2⟩ : ∃ q, Hid (q = ((p.bn : Int) == 0)) := ⟨_, rfl⟩
  have hwA := fun wx => implWaits p.a wx
  have hwB := fun wx => implWaits p.b wx
  obtain ⟨b3, h3⟩ : ∃ q, Hid (q = waitsB p.a) := ⟨_, rfl⟩
  obtain ⟨b4, h4⟩ : ∃ q, Hid (q = waitsB p.b) := ⟨_, rfl⟩
  rw [← h3.out] at hwA
  rw [← h4.out] at hwB
  have G := (Since.refl w).alloc (.cells (prCells p) 36)
  have A := Blk.new w (prCells p) 36
  go_enter Try.func11, Try.ntmps11
  go_upto_region 1 with (fail)
  generalize w.alloc (.cells (prCells p) 36) = x0 at A G ⊢
  cases b1
  case false =>
    refine wp_region_lit ?_
    refine step_val (w' := x0) rfl (.pointer (some ⟨w.heap.size, 78, none⟩)) (by kernel_rfl) ?_
    refine wpList_frame (a' := { tmps := #[.agg (prCells p), .pointer (some ⟨w.heap.size, 0, none⟩), .bool false, .pointer (some ⟨w.heap.size, 78, none⟩), undef, undef, undef, undef, undef, undef, undef, undef, undef, undef, undef, undef, undef, undef, undef, undef, undef, undef, undef, undef, undef], defers := [] }) (by kernel_rfl) ?_
    refine load_cell rfl _ _ rfl _ rfl (.slice p.aa p.an p.ac) (show x0.cell? ⟨w.heap.size, 78, none⟩ = some (.slice p.aa p.an p.ac) from (A.cell 78).trans (pr_tl _ 4 _ rfl)) (by kernel_rfl) ?_
    refine wpList_frame (a' := { tmps := #[.agg (prCells p), .pointer (some ⟨w.heap.size, 0, none⟩), .bool false, .pointer (some ⟨w.heap.size, 78, none⟩), .slice p.aa p.an p.ac, undef, undef, undef, undef, undef, undef, undef, undef, undef, undef, undef, undef, undef, undef, undef, undef, undef, undef, undef, undef], defers := [] }) (by kernel_rfl) ?_
    refine step_val (w' := x0) rfl (.int .i64 (p.an : Int)) (by simp [go_sem]) ?_
    refine wpList_frame (a' := { tmps := #[.agg (prCells p), .pointer (some ⟨w.heap.size, 0, none⟩), .bool false, .pointer (some ⟨w.heap.size, 78, none⟩), .slice p.aa p.an p.ac, .int .i64 (p.an : Int), undef, undef, undef, undef, undef, undef, undef, undef, undef, undef, undef, undef, undef, undef, undef, undef, undef, undef, undef], defers := [] }) (by kernel_rfl) ?_
    refine step_val (w' := x0) rfl (.bool false) (by rw [show false = ((p.an : Int) == 0) from h1.out]; kernel_rfl) ?_
    refine wpList_frame (a' := { tmps := #[.agg (prCells p), .pointer (some ⟨w.heap.size, 0, none⟩), .bool false, .pointer (some ⟨w.heap.size, 78, none⟩), .slice p.aa p.an p.ac, .int .i64 (p.an : Int), .bool false, undef, undef, undef, undef, undef, undef, undef, undef, undef, undef, undef, undef, undef, undef, undef, undef, undef, undef], defers := [] }) (by kernel_rfl) ?_
    refine move_step rfl _ rfl ?_
    refine wpList_frame (a' := { tmps := #[.agg (prCells p), .pointer (some ⟨w.heap.size, 0, none⟩), .bool false, .pointer (some ⟨w.heap.size, 78, none⟩), .slice p.aa p.an p.ac, .int .i64 (p.an : Int), .bool false, .bool false, undef, undef, undef, undef, undef, undef, undef, undef, undef, undef, undef, undef, undef, undef, undef, undef, undef], defers := [] }) (by kernel_rfl) ?_
    refine want_skip (by kernel_rfl) ?_
    refine wpList_frame (a' := { tmps := #[.agg (prCells p), .pointer (some ⟨w.heap.size, 0, none⟩), .bool false, .pointer (some ⟨w.heap.size, 78, none⟩), .slice p.aa p.an p.ac, .int .i64 (p.an : Int), .bool false, .bool false, undef, undef, undef, undef, undef, undef, undef, undef, undef, undef, undef, undef, undef, undef, undef, undef, undef], defers := [] }) (by kernel_rfl) ?_
    refine want_skip (by kernel_rfl) ?_
    refine wpList_frame (a' := { tmps := #[.agg (prCells p), .pointer (some ⟨w.heap.size, 0, none⟩), .bool false, .pointer (some ⟨w.heap.size, 78, none⟩), .slice p.aa p.an p.ac, .int .i64 (p.an : Int), .bool false, .bool false, undef, undef, undef, undef, undef, undef, undef, undef, undef, undef, undef, undef, undef, undef, undef, undef, undef], defers := [] }) (by kernel_rfl) ?_
    refine want_skip (by kernel_rfl) ?_
    refine wpList_frame (a' := { tmps := #[.agg (prCells p), .pointer (some ⟨w.heap.size, 0, none⟩), .bool false, .pointer (some ⟨w.heap.size, 78, none⟩), .slice p.aa p.an p.ac, .int .i64 (p.an : Int), .bool false, .bool false, undef, undef, undef, undef, undef, undef, undef, undef, undef, undef, undef, undef, undef, undef, undef, undef, undef], defers := [] }) (by kernel_rfl) ?_
    refine want_skip (by kernel_rfl) ?_
    refine wpList_frame (a' := { tmps := #[.agg (prCells p), .pointer (some ⟨w.heap.size, 0, none⟩), .bool false, .pointer (some ⟨w.heap.size, 78, none⟩), .slice p.aa p.an p.ac, .int .i64 (p.an : Int), .bool false, .bool false, undef, undef, undef, undef, undef, undef, undef, undef, undef, undef, undef, undef, undef, undef, undef, undef, undef], defers := [] }) (by kernel_rfl) ?_
    refine step_val (w' := x0) rfl (.bool false) (by kernel_rfl) ?_
    refine wpList_frame (a' := { tmps := #[.agg (prCells p), .pointer (some ⟨w.heap.size, 0, none⟩), .bool false, .pointer (some ⟨w.heap.size, 78, none⟩), .slice p.aa p.an p.ac, .int .i64 (p.an : Int), .bool false, .bool false, undef, undef, undef, undef, .bool false, undef, undef, undef, undef, undef, undef, undef, undef, undef, undef, undef, undef], defers := [] }) (by kernel_rfl) ?_
    refine move_step rfl _ rfl ?_
    refine wpList_frame (a' := { tmps := #[.agg (prCells p), .pointer (some ⟨w.heap.size, 0, none⟩), .bool false, .pointer (some ⟨w.heap.size, 78, none⟩), .slice p.aa p.an p.ac, .int .i64 (p.an : Int), .bool false, .bool false, undef, undef, undef, undef, .bool false, .bool false, undef, undef, undef, undef, undef, undef, undef, undef, undef, undef, undef], defers := [] }) (by kernel_rfl) ?_
    refine want_skip (by kernel_rfl) ?_
    refine wpList_frame (a' := { tmps := #[.agg (prCells p), .pointer (some ⟨w.heap.size, 0, none⟩), .bool false, .pointer (some ⟨w.heap.size, 78, none⟩), .slice p.aa p.an p.ac, .int .i64 (p.an : Int), .bool false, .bool false, undef, undef, undef, undef, .bool false, .bool false, undef, undef, undef, undef, undef, undef, undef, undef, undef, undef, undef], defers := [] }) (by kernel_rfl) ?_
    refine want_skip (by kernel_rfl) ?_
    refine wpList_frame (a' := { tmps := #[.agg (prCells p), .pointer (some ⟨w.heap.size, 0, none⟩), .bool false, .pointer (some ⟨w.heap.size, 78, none⟩), .slice p.aa p.an p.ac, .int .i64 (p.an : Int), .bool false, .bool false, undef, undef, undef, undef, .bool false, .bool false, undef, undef, undef, undef, undef, undef, undef, undef, undef, undef, undef], defers := [] }) (by kernel_rfl) ?_
    refine want_skip (by kernel_rfl) ?_
    refine wpList_frame (a' := { tmps := #[.agg (prCells p), .pointer (some ⟨w.heap.size, 0, none⟩), .bool false, .pointer (some ⟨w.heap.size, 78, none⟩), .slice p.aa p.an p.ac, .int .i64 (p.an : Int), .bool false, .bool false, undef, undef, undef, undef, .bool false, .bool false, undef, undef, undef, undef, undef, undef, undef, undef, undef, undef, undef], defers := [] }) (by kernel_rfl) ?_
    refine want_skip (by kernel_rfl) ?_
    refine wpList_frame (a' := { tmps := #[.agg (prCells p), .pointer (some ⟨w.heap.size, 0, none⟩), .bool false, .pointer (some ⟨w.heap.size, 78, none⟩), .slice p.aa p.an p.ac, .int .i64 (p.an : Int), .bool false, .bool false, undef, undef, undef, undef, .bool false, .bool false, undef, undef, undef, undef, undef, undef, undef, undef, undef, undef, undef], defers := [] }) (by kernel_rfl) ?_
    refine step_val (w' := x0) rfl (.bool false) (by kernel_rfl) ?_
    refine wpList_frame (a' := { tmps := #[.agg (prCells p), .pointer (some ⟨w.heap.size, 0, none⟩), .bool false, .pointer (some ⟨w.heap.size, 78, none⟩), .slice p.aa p.an p.ac, .int .i64 (p.an : Int), .bool false, .bool false, undef, undef, undef, undef, .bool false, .bool false, undef, undef, undef, undef, .bool false, undef, undef, undef, undef, undef, undef], defers := [] }) (by kernel_rfl) ?_
    refine move_step rfl _ rfl ?_
    refine wpList_frame (a' := { tmps := #[.agg (prCells p), .pointer (some ⟨w.heap.size, 0, none⟩), .bool false, .pointer (some ⟨w.heap.size, 78, none⟩), .slice p.aa p.an p.ac, .int .i64 (p.an : Int), .bool false, .bool false, undef, undef, undef, undef, .bool false, .bool false, undef, undef, undef, undef, .bool false, .bool false, undef, undef, undef, undef, undef], defers := [] }) (by kernel_rfl) ?_
    refine want_skip (by kernel_rfl) ?_
    refine wpList_frame (a' := { tmps := #[.agg (prCells p), .pointer (some ⟨w.heap.size, 0, none⟩), .bool false, .pointer (some ⟨w.heap.size, 78, none⟩), .slice p.aa p.an p.ac, .int .i64 (p.an : Int), .bool false, .bool false, undef, undef, undef, undef, .bool false, .bool false, undef, undef, undef, undef, .bool false, .bool false, undef, undef, undef, undef, undef], defers := [] }) (by kernel_rfl) ?_
    refine want_skip (by kernel_rfl) ?_
    refine wpList_frame (a' := { tmps := #[.agg (prCells p), .pointer (some ⟨w.heap.size, 0, none⟩), .bool false, .pointer (some ⟨w.heap.size, 78, none⟩), .slice p.aa p.an p.ac, .int .i64 (p.an : Int), .bool false, .bool false, undef, undef, undef, undef, .bool false, .bool false, undef, undef, undef, undef, .bool false, .bool false, undef, undef, undef, undef, undef], defers := [] }) (by kernel_rfl) ?_
    refine want_skip (by kernel_rfl) ?_
    refine wpList_frame (a' := { tmps := #[.agg (prCells p), .pointer (some ⟨w.heap.size, 0, none⟩), .bool false, .pointer (some ⟨w.heap.size, 78, none⟩), .slice p.aa p.an p.ac, .int .i64 (p.an : Int), .bool false, .bool false, undef, undef, undef, undef, .bool false, .bool false, undef, undef, undef, undef, .bool false, .bool false, undef, undef, undef, undef, undef], defers := [] }) (by kernel_rfl) ?_
    refine want_skip (by kernel_rfl) ?_
    refine wpList_frame (a' := { tmps := #[.agg (prCells p), .pointer (some ⟨w.heap.size, 0, none⟩), .bool false, .pointer (some ⟨w.heap.size, 78, none⟩), .slice p.aa p.an p.ac, .int .i64 (p.an : Int), .bool false, .bool false, undef, undef, undef, undef, .bool false, .bool false, undef, undef, undef, undef, .bool false, .bool false, undef, undef, undef, undef, undef], defers := [] }) (by kernel_rfl) ?_
    refine step_val (w' := x0) rfl (.bool false) (by kernel_rfl) ?_
    refine wpList_frame (a' := { tmps := #[.agg (prCells p), .pointer (some ⟨w.heap.size, 0, none⟩), .bool false, .pointer (some ⟨w.heap.size, 78, none⟩), .slice p.aa p.an p.ac, .int .i64 (p.an : Int), .bool false, .bool false, undef, undef, undef, undef, .bool false, .bool false, undef, undef, undef, undef, .bool false, .bool false, undef, undef, undef, undef, .bool false], defers := [] }) (by kernel_rfl) ?_
    refine step_val (w' := x0) rfl (.bool false) (by kernel_rfl) ?_
    refine wpList_frame (a' := { tmps := #[.agg (prCells p), .pointer (some ⟨w.heap.size, 0, none⟩), .bool false, .pointer (some ⟨w.heap.size, 78, none⟩), .slice p.aa p.an p.ac, .int .i64 (p.an : Int), .bool false, .bool false, undef, undef, undef, undef, .bool false, .bool false, undef, undef, undef, undef, .bool false, .bool false, undef, undef, undef, undef, .bool false], defers := [] }) (by kernel_rfl) ?_
    go_wp2_with (fail)
    go_ret
    exact ⟨by rw [show v = false from hv.out.trans (by unfold overB; rw [decide_eq_false (show ¬ p.an = 0 by have := h1.out; simpa using this.symm)]; rfl)]; rfl, G⟩
  case true =>
    cases b2
    case false =>
      refine wp_region_lit ?_
      refine step_val (w' := x0) rfl (.pointer (some ⟨w.heap.size, 78, none⟩)) (by kernel_rfl) ?_
      refine wpList_frame (a' := { tmps := #[.agg (prCells p), .pointer (some ⟨w.heap.size, 0, none⟩), .bool false, .pointer (some ⟨w.heap.size, 78, none⟩), undef, undef, undef, undef, undef, undef, undef, undef, undef, undef, undef, undef, undef, undef, undef, undef, undef, undef, undef, undef, undef], defers := [] }) (by kernel_rfl) ?_
      refine load_cell rfl _ _ rfl _ rfl (.slice p.aa p.an p.ac) (show x0.cell? ⟨w.heap.size, 78, none⟩ = some (.slice p.aa p.an p.ac) from (A.cell 78).trans (pr_tl _ 4 _ rfl)) (by kernel_rfl) ?_
      refine wpList_frame (a' := { tmps := #[.agg (prCells p), .pointer (some ⟨w.heap.size, 0, none⟩), .bool false, .pointer (some ⟨w.heap.size, 78, none⟩), .slice p.aa p.an p.ac, undef, undef, undef, undef, undef, undef, undef, undef, undef, undef, undef, undef, undef, undef, undef, undef, undef, undef, undef, undef], defers := [] }) (by kernel_rfl) ?_
      refine step_val (w' := x0) rfl (.int .i64 (p.an : Int)) (by simp [go_sem]) ?_
      refine wpList_frame (a' := { tmps := #[.agg (prCells p), .pointer (some ⟨w.heap.size, 0, none⟩), .bool false, .pointer (some ⟨w.heap.size, 78, none⟩), .slice p.aa p.an p.ac, .int .i64 (p.an : Int), undef, undef, undef, undef, undef, undef, undef, undef, undef, undef, undef, undef, undef, undef, undef, undef, undef, undef, undef], defers := [] }) (by kernel_rfl) ?_
      refine step_val (w' := x0) rfl (.bool true) (by rw [show true = ((p.an : Int) == 0) from h1.out]; kernel_rfl) ?_
      refine wpList_frame (a' := { tmps := #[.agg (prCells p), .pointer (some ⟨w.heap.size, 0, none⟩), .bool false, .pointer (some ⟨w.heap.size, 78, none⟩), .slice p.aa p.an p.ac, .int .i64 (p.an : Int), .bool true, undef, undef, undef, undef, undef, undef, undef, undef, undef, undef, undef, undef, undef, undef, undef, undef, undef, undef], defers := [] }) (by kernel_rfl) ?_
      refine move_step rfl _ rfl ?_
      refine wpList_frame (a' := { tmps := #[.agg (prCells p), .pointer (some ⟨w.heap.size, 0, none⟩), .bool false, .pointer (some ⟨w.heap.size, 78, none⟩), .slice p.aa p.an p.ac, .int .i64 (p.an : Int), .bool true, .bool true, undef, undef, undef, undef, undef, undef, undef, undef, undef, undef, undef, undef, undef, undef, undef, undef, undef], defers := [] }) (by kernel_rfl) ?_
      refine want_val (w' := x0) (by kernel_rfl) (.pointer (some ⟨w.heap.size, 77, none⟩)) (by kernel_rfl) ?_
      refine wpList_frame (a' := { tmps := #[.agg (prCells p), .pointer (some ⟨w.heap.size, 0, none⟩), .bool false, .pointer (some ⟨w.heap.size, 78, none⟩), .slice p.aa p.an p.ac, .int .i64 (p.an : Int), .bool true, .bool true, .pointer (some ⟨w.heap.size, 77, none⟩), undef, undef, undef, undef, undef, undef, undef, undef, undef, undef, undef, undef, undef, undef, undef, undef], defers := [] }) (by kernel_rfl) ?_
      refine want_cellv (by kernel_rfl) _ _ rfl _ rfl (.slice p.ba p.bn p.bc) (show x0.cell? ⟨w.heap.size, 77, none⟩ = some (.slice p.ba p.bn p.bc) from (A.cell 77).trans (pr_tl _ 3 _ rfl)) (by kernel_rfl) ?_
      refine wpList_frame (a' := { tmps := #[.agg (prCells p), .pointer (some ⟨w.heap.size, 0, none⟩), .bool false, .pointer (some ⟨w.heap.size, 78, none⟩), .slice p.aa p.an p.ac, .int .i64 (p.an : Int), .bool true, .bool true, .pointer (some ⟨w.heap.size, 77, none⟩), .slice p.ba p.bn p.bc, undef, undef, undef, undef, undef, undef, undef, undef, undef, undef, undef, undef, undef, undef, undef], defers := [] }) (by kernel_rfl) ?_
      refine want_val (w' := x0) (by kernel_rfl) (.int .i64 (p.bn : Int)) (by simp [go_sem]) ?_
      refine wpList_frame (a' := { tmps := #[.agg (prCells p), .pointer (some ⟨w.heap.size, 0, none⟩), .bool false, .pointer (some ⟨w.heap.size, 78, none⟩), .slice p.aa p.an p.ac, .int .i64 (p.an : Int), .bool true, .bool true, .pointer (some ⟨w.heap.size, 77, none⟩), .slice p.ba p.bn p.bc, .int .i64 (p.bn : Int), undef, undef, undef, undef, undef, undef, undef, undef, undef, undef, undef, undef, undef, undef], defers := [] }) (by kernel_rfl) ?_
      refine want_val (w' := x0) (by kernel_rfl) (.bool false) (by rw [show false = ((p.bn : Int) == 0) from h2.out]; kernel_rfl) ?_
      refine wpList_frame (a' := { tmps := #[.agg (prCells p), .pointer (some ⟨w.heap.size, 0, none⟩), .bool false, .pointer (some ⟨w.heap.size, 78, none⟩), .slice p.aa p.an p.ac, .int .i64 (p.an : Int), .bool true, .bool true, .pointer (some ⟨w.heap.size, 77, none⟩), .slice p.ba p.bn p.bc, .int .i64 (p.bn : Int), .bool false, undef, undef, undef, undef, undef, undef, undef, undef, undef, undef, undef, undef, undef], defers := [] }) (by kernel_rfl) ?_
      refine step_val (w' := x0) rfl (.bool false) (by kernel_rfl) ?_
      refine wpList_frame (a' := { tmps := #[.agg (prCells p), .pointer (some ⟨w.heap.size, 0, none⟩), .bool false, .pointer (some ⟨w.heap.size, 78, none⟩), .slice p.aa p.an p.ac, .int .i64 (p.an : Int), .bool true, .bool true, .pointer (some ⟨w.heap.size, 77, none⟩), .slice p.ba p.bn p.bc, .int .i64 (p.bn : Int), .bool false, .bool false, undef, undef, undef, undef, undef, undef, undef, undef, undef, undef, undef, undef], defers := [] }) (by kernel_rfl) ?_
      refine move_step rfl _ rfl ?_
      refine wpList_frame (a' := { tmps := #[.agg (prCells p), .pointer (some ⟨w.heap.size, 0, none⟩), .bool false, .pointer (some ⟨w.heap.size, 78, none⟩), .slice p.aa p.an p.ac, .int .i64 (p.an : Int), .bool true, .bool true, .pointer (some ⟨w.heap.size, 77, none⟩), .slice p.ba p.bn p.bc, .int .i64 (p.bn : Int), .bool false, .bool false, .bool false, undef, undef, undef, undef, undef, undef, undef, undef, undef, undef, undef], defers := [] }) (by kernel_rfl) ?_
      refine want_skip (by kernel_rfl) ?_
      refine wpList_frame (a' := { tmps := #[.agg (prCells p), .pointer (some ⟨w.heap.size, 0, none⟩), .bool false, .pointer (some ⟨w.heap.size, 78, none⟩), .slice p.aa p.an p.ac, .int .i64 (p.an : Int), .bool true, .bool true, .pointer (some ⟨w.heap.size, 77, none⟩), .slice p.ba p.bn p.bc, .int .i64 (p.bn : Int), .bool false, .bool false, .bool false, undef, undef, undef, undef, undef, undef, undef, undef, undef, undef, undef], defers := [] }) (by kernel_rfl) ?_
      refine want_skip (by kernel_rfl) ?_
      refine wpList_frame (a' := { tmps := #[.agg (prCells p), .pointer (some ⟨w.heap.size, 0, none⟩), .bool false, .pointer (some ⟨w.heap.size, 78, none⟩), .slice p.aa p.an p.ac, .int .i64 (p.an : Int), .bool true, .bool true, .pointer (some ⟨w.heap.size, 77, none⟩), .slice p.ba p.bn p.bc, .int .i64 (p.bn : Int), .bool false, .bool false, .bool false, undef, undef, undef, undef, undef, undef, undef, undef, undef, undef, undef], defers := [] }) (by kernel_rfl) ?_
      refine want_skip (by kernel_rfl) ?_
      refine wpList_frame (a' := { tmps := #[.agg (prCells p), .pointer (some ⟨w.heap.size, 0, none⟩), .bool false, .pointer (some ⟨w.heap.size, 78, none⟩), .slice p.aa p.an p.ac, .int .i64 (p.an : Int), .bool true, .bool true, .pointer (some ⟨w.heap.size, 77, none⟩), .slice p.ba p.bn p.bc, .int .i64 (p.bn : Int), .bool false, .bool false, .bool false, undef, undef, undef, undef, undef, undef, undef, undef, undef, undef, undef], defers := [] }) (by kernel_rfl) ?_
      refine want_skip (by kernel_rfl) ?_
      refine wpList_frame (a' := { tmps := #[.agg (prCells p), .pointer (some ⟨w.heap.size, 0, none⟩), .bool false, .pointer (some ⟨w.heap.size, 78, none⟩), .slice p.aa p.an p.ac, .int .i64 (p.an : Int), .bool true, .bool true, .pointer (some ⟨w.heap.size, 77, none⟩), .slice p.ba p.bn p.bc, .int .i64 (p.bn : Int), .bool false, .bool false, .bool false, undef, undef, undef, undef, undef, undef, undef, undef, undef, undef, undef], defers := [] }) (by kernel_rfl) ?_
      refine step_val (w' := x0) rfl (.bool false) (by kernel_rfl) ?_
      refine wpList_frame (a' := { tmps := #[.agg (prCells p), .pointer (some ⟨w.heap.size, 0, none⟩), .bool false, .pointer (some ⟨w.heap.size, 78, none⟩), .slice p.aa p.an p.ac, .int .i64 (p.an : Int), .bool true, .bool true, .pointer (some ⟨w.heap.size, 77, none⟩), .slice p.ba p.bn p.bc, .int .i64 (p.bn : Int), .bool false, .bool false, .bool false, undef, undef, undef, undef, .bool false, undef, undef, undef, undef, undef, undef], defers := [] }) (by kernel_rfl) ?_
      refine move_step rfl _ rfl ?_
      refine wpList_frame (a' := { tmps := #[.agg (prCells p), .pointer (some ⟨w.heap.size, 0, none⟩), .bool false, .pointer (some ⟨w.heap.size, 78, none⟩), .slice p.aa p.an p.ac, .int .i64 (p.an : Int), .bool true, .bool true, .pointer (some ⟨w.heap.size, 77, none⟩), .slice p.ba p.bn p.bc, .int .i64 (p.bn : Int), .bool false, .bool false, .bool false, undef, undef, undef, undef, .bool false, .bool false, undef, undef, undef, undef, undef], defers := [] }) (by kernel_rfl) ?_
      refine want_skip (by kernel_rfl) ?_
      refine wpList_frame (a' := { tmps := #[.agg (prCells p), .pointer (some ⟨w.heap.size, 0, none⟩), .bool false, .pointer (some ⟨w.heap.size, 78, none⟩), .slice p.aa p.an p.ac, .int .i64 (p.an : Int), .bool true, .bool true, .pointer (some ⟨w.heap.size, 77, none⟩), .slice p.ba p.bn p.bc, .int .i64 (p.bn : Int), .bool false, .bool false, .bool false, undef, undef, undef, undef, .bool false, .bool false, undef, undef, undef, undef, undef], defers := [] }) (by kernel_rfl) ?_
      refine want_skip (by kernel_rfl) ?_
      refine wpList_frame (a' := { tmps := #[.agg (prCells p), .pointer (some ⟨w.heap.size, 0, none⟩), .bool false, .pointer (some ⟨w.heap.size, 78, none⟩), .slice p.aa p.an p.ac, .int .i64 (p.an : Int), .bool true, .bool true, .pointer (some ⟨w.heap.size, 77, none⟩), .slice p.ba p.bn p.bc, .int .i64 (p.bn : Int), .bool false, .bool false, .bool false, undef, undef, undef, undef, .bool false, .bool false, undef, undef, undef, undef, undef], defers := [] }) (by kernel_rfl) ?_
      refine want_skip (by kernel_rfl) ?_
      refine wpList_frame (a' := { tmps := #[.agg (prCells p), .pointer (some ⟨w.heap.size, 0, none⟩), .bool false, .pointer (some ⟨w.heap.size, 78, none⟩), .slice p.aa p.an p.ac, .int .i64 (p.an : Int), .bool true, .bool true, .pointer (some ⟨w.heap.size, 77, none⟩), .slice p.ba p.bn p.bc, .int .i64 (p.bn : Int), .bool false, .bool false, .bool false, undef, undef, undef, undef, .bool false, .bool false, undef, undef, undef, undef, undef], defers := [] }) (by kernel_rfl) ?_
      refine want_skip (by kernel_rfl) ?_
      refine wpList_frame (a' := { tmps := #[.agg (prCells p), .pointer (some ⟨w.heap.size, 0, none⟩), .bool false, .pointer (some ⟨w.heap.size, 78, none⟩), .slice p.aa p.an p.ac, .int .i64 (p.an : Int), .bool true, .bool true, .pointer (some ⟨w.heap.size, 77, none⟩), .slice p.ba p.bn p.bc, .int .i64 (p.bn : Int), .bool false, .bool false, .bool false, undef, undef, undef, undef, .bool false, .bool false, undef, undef, undef, undef, undef], defers := [] }) (by kernel_rfl) ?_
      refine step_val (w' := x0) rfl (.bool false) (by kernel_rfl) ?_
      refine wpList_frame (a' := { tmps := #[.agg (prCells p), .pointer (some ⟨w.heap.size, 0, none⟩), .bool false, .pointer (some ⟨w.heap.size, 78, none⟩), .slice p.aa p.an p.ac, .int .i64 (p.an : Int), .bool true, .bool true, .pointer (some ⟨w.heap.size, 77, none⟩), .slice p.ba p.bn p.bc, .int .i64 (p.bn : Int), .bool false, .bool false, .bool false, undef, undef, undef, undef, .bool false, .bool false, undef, undef, undef, undef, .bool false], defers := [] }) (by kernel_rfl) ?_
      refine step_val (w' := x0) rfl (.bool false) (by kernel_rfl) ?_
      refine wpList_frame (a' := { tmps := #[.agg (prCells p), .pointer (some ⟨w.heap.size, 0, none⟩), .bool false, .pointer (some ⟨w.heap.size, 78, none⟩), .slice p.aa p.an p.ac, .int .i64 (p.an : Int), .bool true, .bool true, .pointer (some ⟨w.heap.size, 77, none⟩), .slice p.ba p.bn p.bc, .int .i64 (p.bn : Int), .bool false, .bool false, .bool false, undef, undef, undef, undef, .bool false, .bool false, undef, undef, undef, undef, .bool false], defers := [] }) (by kernel_rfl) ?_
      go_wp2_with (fail)
      go_ret
      exact ⟨by rw [show v = false from hv.out.trans (by unfold overB; rw [decide_eq_true (show p.an = 0 by have := h1.out; simpa using this.symm), decide_eq_false (show ¬ p.bn = 0 by have := h2.out; simpa using this.symm)]; rfl)]; rfl, G⟩
    case true =>
      cases b3
      case true =>
        refine wp_region_lit ?_
        refine step_val (w' := x0) rfl (.pointer (some ⟨w.heap.size, 78, none⟩)) (by kernel_rfl) ?_
        refine wpList_frame (a' := { tmps := #[.agg (prCells p), .pointer (some ⟨w.heap.size, 0, none⟩), .bool false, .pointer (some ⟨w.heap.size, 78, none⟩), undef, undef, undef, undef, undef, undef, undef, undef, undef, undef, undef, undef, undef, undef, undef, undef, undef, undef, undef, undef, undef], defers := [] }) (by kernel_rfl) ?_
        refine load_cell rfl _ _ rfl _ rfl (.slice p.aa p.an p.ac) (show x0.cell? ⟨w.heap.size, 78, none⟩ = some (.slice p.aa p.an p.ac) from (A.cell 78).trans (pr_tl _ 4 _ rfl)) (by kernel_rfl) ?_
        refine wpList_frame (a' := { tmps := #[.agg (prCells p), .pointer (some ⟨w.heap.size, 0, none⟩), .bool false, .pointer (some ⟨w.heap.size, 78, none⟩), .slice p.aa p.an p.ac, undef, undef, undef, undef, undef, undef, undef, undef, undef, undef, undef, undef, undef, undef, undef, undef, undef, undef, undef, undef], defers := [] }) (by kernel_rfl) ?_
        refine step_val (w' := x0) rfl (.int .i64 (p.an : Int)) (by simp [go_sem]) ?_
        refine wpList_frame (a' := { tmps := #[.agg (prCells p), .pointer (some ⟨w.heap.size, 0, none⟩), .bool false, .pointer (some ⟨w.heap.size, 78, none⟩), .slice p.aa p.an p.ac, .int .i64 (p.an : Int), undef, undef, undef, undef, undef, undef, undef, undef, undef, undef, undef, undef, undef, undef, undef, undef, undef, undef, undef], defers := [] }) (by kernel_rfl) ?_
        refine step_val (w' := x0) rfl (.bool true) (by rw [show true = ((p.an : Int) == 0) from h1.out]; kernel_rfl) ?_
        refine wpList_frame (a' := { tmps := #[.agg (prCells p), .pointer (some ⟨w.heap.size, 0, none⟩), .bool false, .pointer (some ⟨w.heap.size, 78, none⟩), .slice p.aa p.an p.ac, .int .i64 (p.an : Int), .bool true, undef, undef, undef, undef, undef, undef, undef, undef, undef, undef, undef, undef, undef, undef, undef, undef, undef, undef], defers := [] }) (by kernel_rfl) ?_
        refine move_step rfl _ rfl ?_
        refine wpList_frame (a' := { tmps := #[.agg (prCells p), .pointer (some ⟨w.heap.size, 0, none⟩), .bool false, .pointer (some ⟨w.heap.size, 78, none⟩), .slice p.aa p.an p.ac, .int .i64 (p.an : Int), .bool true, .bool true, undef, undef, undef, undef, undef, undef, undef, undef, undef, undef, undef, undef, undef, undef, undef, undef, undef], defers := [] }) (by kernel_rfl) ?_
        refine want_val (w' := x0) (by kernel_rfl) (.pointer (some ⟨w.heap.size, 77, none⟩)) (by kernel_rfl) ?_
        refine wpList_frame (a' := { tmps := #[.agg (prCells p), .pointer (some ⟨w.heap.size, 0, none⟩), .bool false, .pointer (some ⟨w.heap.size, 78, none⟩), .slice p.aa p.an p.ac, .int .i64 (p.an : Int), .bool true, .bool true, .pointer (some ⟨w.heap.size, 77, none⟩), undef, undef, undef, undef, undef, undef, undef, undef, undef, undef, undef, undef, undef, undef, undef, undef], defers := [] }) (by kernel_rfl) ?_
        refine want_cellv (by kernel_rfl) _ _ rfl _ rfl (.slice p.ba p.bn p.bc) (show x0.cell? ⟨w.heap.size, 77, none⟩ = some (.slice p.ba p.bn p.bc) from (A.cell 77).trans (pr_tl _ 3 _ rfl)) (by kernel_rfl) ?_
        refine wpList_frame (a' := { tmps := #[.agg (prCells p), .pointer (some ⟨w.heap.size, 0, none⟩), .bool false, .pointer (some ⟨w.heap.size, 78, none⟩), .slice p.aa p.an p.ac, .int .i64 (p.an : Int), .bool true, .bool true, .pointer (some ⟨w.heap.size, 77, none⟩), .slice p.ba p.bn p.bc, undef, undef, undef, undef, undef, undef, undef, undef, undef, undef, undef, undef, undef, undef, undef], defers := [] }) (by kernel_rfl) ?_
        refine want_val (w' := x0) (by kernel_rfl) (.int .i64 (p.bn : Int)) (by simp [go_sem]) ?_
        refine wpList_frame (a' := { tmps := #[.agg (prCells p), .pointer (some ⟨w.heap.size, 0, none⟩), .bool false, .pointer (some ⟨w.heap.size, 78, none⟩), .slice p.aa p.an p.ac, .int .i64 (p.an : Int), .bool true, .bool true, .pointer (some ⟨w.heap.size, 77, none⟩), .slice p.ba p.bn p.bc, .int .i64 (p.bn : Int), undef, undef, undef, undef, undef, undef, undef, undef, undef, undef, undef, undef, undef, undef], defers := [] }) (by kernel_rfl) ?_
        refine want_val (w' := x0) (by kernel_rfl) (.bool true) (by rw [show true = ((p.bn : Int) == 0) from h2.out]; kernel_rfl) ?_
        refine wpList_frame (a' := { tmps := #[.agg (prCells p), .pointer (some ⟨w.heap.size, 0, none⟩), .bool false, .pointer (some ⟨w.heap.size, 78, none⟩), .slice p.aa p.an p.ac, .int .i64 (p.an : Int), .bool true, .bool true, .pointer (some ⟨w.heap.size, 77, none⟩), .slice p.ba p.bn p.bc, .int .i64 (p.bn : Int), .bool true, undef, undef, undef, undef, undef, undef, undef, undef, undef, undef, undef, undef, undef], defers := [] }) (by kernel_rfl) ?_
        refine step_val (w' := x0) rfl (.bool true) (by kernel_rfl) ?_
        refine wpList_frame (a' := { tmps := #[.agg (prCells p), .pointer (some ⟨w.heap.size, 0, none⟩), .bool false, .pointer (some ⟨w.heap.size, 78, none⟩), .slice p.aa p.an p.ac, .int .i64 (p.an : Int), .bool true, .bool true, .pointer (some ⟨w.heap.size, 77, none⟩), .slice p.ba p.bn p.bc, .int .i64 (p.bn : Int), .bool true, .bool true, undef, undef, undef, undef, undef, undef, undef, undef, undef, undef, undef, undef], defers := [] }) (by kernel_rfl) ?_
        refine move_step rfl _ rfl ?_
        refine wpList_frame (a' := { tmps := #[.agg (prCells p), .pointer (some ⟨w.heap.size, 0, none⟩), .bool false, .pointer (some ⟨w.heap.size, 78, none⟩), .slice p.aa p.an p.ac, .int .i64 (p.an : Int), .bool true, .bool true, .pointer (some ⟨w.heap.size, 77, none⟩), .slice p.ba p.bn p.bc, .int .i64 (p.bn : Int), .bool true, .bool true, .bool true, undef, undef, undef, undef, undef, undef, undef, undef, undef, undef, undef], defers := [] }) (by kernel_rfl) ?_
        refine want_val (w' := x0) (by kernel_rfl) (.pointer (some ⟨w.heap.size, 0, none⟩)) (by kernel_rfl) ?_
        refine wpList_frame (a' := { tmps := #[.agg (prCells p), .pointer (some ⟨w.heap.size, 0, none⟩), .bool false, .pointer (some ⟨w.heap.size, 78, none⟩), .slice p.aa p.an p.ac, .int .i64 (p.an : Int), .bool true, .bool true, .pointer (some ⟨w.heap.size, 77, none⟩), .slice p.ba p.bn p.bc, .int .i64 (p.bn : Int), .bool true, .bool true, .bool true, .pointer (some ⟨w.heap.size, 0, none⟩), undef, undef, undef, undef, undef, undef, undef, undef, undef, undef], defers := [] }) (by kernel_rfl) ?_
        refine want_pa cn_big A (by kernel_rfl) _ rfl rfl ?_
        refine wpList_frame (a' := { tmps := #[.agg (prCells p), .pointer (some ⟨w.heap.size, 0, none⟩), .bool false, .pointer (some ⟨w.heap.size, 78, none⟩), .slice p.aa p.an p.ac, .int .i64 (p.an : Int), .bool true, .bool true, .pointer (some ⟨w.heap.size, 77, none⟩), .slice p.ba p.bn p.bc, .int .i64 (p.bn : Int), .bool true, .bool true, .bool true, .pointer (some ⟨w.heap.size, 0, none⟩), .agg (cnCells p.a), undef, undef, undef, undef, undef, undef, undef, undef, undef], defers := [] }) (by kernel_rfl) ?_
        refine want_call (by kernel_rfl) 24 #[.agg (cnCells p.a)] (by kernel_rfl) (specDue p.a _) ?_
        rintro _ qw1 ⟨rfl, qg2⟩
        refine ⟨_, rfl, ?_⟩
        replace A := A.since qg2
        replace G := G.trans qg2
        have qg2_s := qg2.size
        refine wpList_frame (a' := { tmps := #[.agg (prCells p), .pointer (some ⟨w.heap.size, 0, none⟩), .bool false, .pointer (some ⟨w.heap.size, 78, none⟩), .slice p.aa p.an p.ac, .int .i64 (p.an : Int), .bool true, .bool true, .pointer (some ⟨w.heap.size, 77, none⟩), .slice p.ba p.bn p.bc, .int .i64 (p.bn : Int), .bool true, .bool true, .bool true, .pointer (some ⟨w.heap.size, 0, none⟩), .agg (cnCells p.a), .int .i64 (dueC p.a), undef, undef, undef, undef, undef, undef, undef, undef], defers := [] }) (by kernel_rfl) ?_
        refine want_val (w' := qw1) (by kernel_rfl) (.bool false) (by rw [show false = (dueC p.a == 0) from (by rw [due_waits, ← h3.out]; rfl)]; kernel_rfl) ?_
        refine wpList_frame (a' := { tmps := #[.agg (prCells p), .pointer (some ⟨w.heap.size, 0, none⟩), .bool false, .pointer (some ⟨w.heap.size, 78, none⟩), .slice p.aa p.an p.ac, .int .i64 (p.an : Int), .bool true, .bool true, .pointer (some ⟨w.heap.size, 77, none⟩), .slice p.ba p.bn p.bc, .int .i64 (p.bn : Int), .bool true, .bool true, .bool true, .pointer (some ⟨w.heap.size, 0, none⟩), .agg (cnCells p.a), .int .i64 (dueC p.a), .bool false, undef, undef, undef, undef, undef, undef, undef], defers := [] }) (by kernel_rfl) ?_
        refine step_val (w' := qw1) rfl (.bool false) (by kernel_rfl) ?_
        refine wpList_frame (a' := { tmps := #[.agg (prCells p), .pointer (some ⟨w.heap.size, 0, none⟩), .bool false, .pointer (some ⟨w.heap.size, 78, none⟩), .slice p.aa p.an p.ac, .int .i64 (p.an : Int), .bool true, .bool true, .pointer (some ⟨w.heap.size, 77, none⟩), .slice p.ba p.bn p.bc, .int .i64 (p.bn : Int), .bool true, .bool true, .bool true, .pointer (some ⟨w.heap.size, 0, none⟩), .agg (cnCells p.a), .int .i64 (dueC p.a), .bool false, .bool false, undef, undef, undef, undef, undef, undef], defers := [] }) (by kernel_rfl) ?_
        refine move_step rfl _ rfl ?_
        refine wpList_frame (a' := { tmps := #[.agg (prCells p), .pointer (some ⟨w.heap.size, 0, none⟩), .bool false, .pointer (some ⟨w.heap.size, 78, none⟩), .slice p.aa p.an p.ac, .int .i64 (p.an : Int), .bool true, .bool true, .pointer (some ⟨w.heap.size, 77, none⟩), .slice p.ba p.bn p.bc, .int .i64 (p.bn : Int), .bool true, .bool true, .bool true, .pointer (some ⟨w.heap.size, 0, none⟩), .agg (cnCells p.a), .int .i64 (dueC p.a), .bool false, .bool false, .bool false, undef, undef, undef, undef, undef], defers := [] }) (by kernel_rfl) ?_
        refine want_skip (by kernel_rfl) ?_
        refine wpList_frame (a' := { tmps := #[.agg (prCells p), .pointer (some ⟨w.heap.size, 0, none⟩), .bool false, .pointer (some ⟨w.heap.size, 78, none⟩), .slice p.aa p.an p.ac, .int .i64 (p.an : Int), .bool true, .bool true, .pointer (some ⟨w.heap.size, 77, none⟩), .slice p.ba p.bn p.bc, .int .i64 (p.bn : Int), .bool true, .bool true, .bool true, .pointer (some ⟨w.heap.size, 0, none⟩), .agg (cnCells p.a), .int .i64 (dueC p.a), .bool false, .bool false, .bool false, undef, undef, undef, undef, undef], defers := [] }) (by kernel_rfl) ?_
        refine want_skip (by kernel_rfl) ?_
        refine wpList_frame (a' := { tmps := #[.agg (prCells p), .pointer (some ⟨w.heap.size, 0, none⟩), .bool false, .pointer (some ⟨w.heap.size, 78, none⟩), .slice p.aa p.an p.ac, .int .i64 (p.an : Int), .bool true, .bool true, .pointer (some ⟨w.heap.size, 77, none⟩), .slice p.ba p.bn p.bc, .int .i64 (p.bn : Int), .bool true, .bool true, .bool true, .pointer (some ⟨w.heap.size, 0, none⟩), .agg (cnCells p.a), .int .i64 (dueC p.a), .bool false, .bool false, .bool false, undef, undef, undef, undef, undef], defers := [] }) (by kernel_rfl) ?_
        refine want_skip (by kernel_rfl) ?_
        refine wpList_frame (a' := { tmps := #[.agg (prCells p), .pointer (some ⟨w.heap.size, 0, none⟩), .bool false, .pointer (some ⟨w.heap.size, 78, none⟩), .slice p.aa p.an p.ac, .int .i64 (p.an : Int), .bool true, .bool true, .pointer (some ⟨w.heap.size, 77, none⟩), .slice p.ba p.bn p.bc, .int .i64 (p.bn : Int), .bool true, .bool true, .bool true, .pointer (some ⟨w.heap.size, 0, none⟩), .agg (cnCells p.a), .int .i64 (dueC p.a), .bool false, .bool false, .bool false, undef, undef, undef, undef, undef], defers := [] }) (by kernel_rfl) ?_
        refine want_skip (by kernel_rfl) ?_
        refine wpList_frame (a' := { tmps := #[.agg (prCells p), .pointer (some ⟨w.heap.size, 0, none⟩), .bool false, .pointer (some ⟨w.heap.size, 78, none⟩), .slice p.aa p.an p.ac, .int .i64 (p.an : Int), .bool true, .bool true, .pointer (some ⟨w.heap.size, 77, none⟩), .slice p.ba p.bn p.bc, .int .i64 (p.bn : Int), .bool true, .bool true, .bool true, .pointer (some ⟨w.heap.size, 0, none⟩), .agg (cnCells p.a), .int .i64 (dueC p.a), .bool false, .bool false, .bool false, undef, undef, undef, undef, undef], defers := [] }) (by kernel_rfl) ?_
        refine step_val (w' := qw1) rfl (.bool false) (by kernel_rfl) ?_
        refine wpList_frame (a' := { tmps := #[.agg (prCells p), .pointer (some ⟨w.heap.size, 0, none⟩), .bool false, .pointer (some ⟨w.heap.size, 78, none⟩), .slice p.aa p.an p.ac, .int .i64 (p.an : Int), .bool true, .bool true, .pointer (some ⟨w.heap.size, 77, none⟩), .slice p.ba p.bn p.bc, .int .i64 (p.bn : Int), .bool true, .bool true, .bool true, .pointer (some ⟨w.heap.size, 0, none⟩), .agg (cnCells p.a), .int .i64 (dueC p.a), .bool false, .bool false, .bool false, undef, undef, undef, undef, .bool false], defers := [] }) (by kernel_rfl) ?_
        refine step_val (w' := qw1) rfl (.bool false) (by kernel_rfl) ?_
        refine wpList_frame (a' := { tmps := #[.agg (prCells p), .pointer (some ⟨w.heap.size, 0, none⟩), .bool false, .pointer (some ⟨w.heap.size, 78, none⟩), .slice p.aa p.an p.ac, .int .i64 (p.an : Int), .bool true, .bool true, .pointer (some ⟨w.heap.size, 77, none⟩), .slice p.ba p.bn p.bc, .int .i64 (p.bn : Int), .bool true, .bool true, .bool true, .pointer (some ⟨w.heap.size, 0, none⟩), .agg (cnCells p.a), .int .i64 (dueC p.a), .bool false, .bool false, .bool false, undef, undef, undef, undef, .bool false], defers := [] }) (by kernel_rfl) ?_
        go_wp2_with (fail)
        go_ret
        exact ⟨by rw [show v = false from hv.out.trans (by unfold overB; rw [decide_eq_true (show p.an = 0 by have := h1.out; simpa using this.symm), decide_eq_true (show p.bn = 0 by have := h2.out; simpa using this.symm), ← h3.out]; rfl)]; rfl, G⟩
      case false =>
        cases b4
        case true =>
          refine wp_region_lit ?_
          refine step_val (w' := x0) rfl (.pointer (some ⟨w.heap.size, 78, none⟩)) (by kernel_rfl) ?_
          refine wpList_frame (a' := { tmps := #[.agg (prCells p), .pointer (some ⟨w.heap.size, 0, none⟩), .bool false, .pointer (some ⟨w.heap.size, 78, none⟩), undef, undef, undef, undef, undef, undef, undef, undef, undef, undef, undef, undef, undef, undef, undef, undef, undef, undef, undef, undef, undef], defers := [] }) (by kernel_rfl) ?_
          refine load_cell rfl _ _ rfl _ rfl (.slice p.aa p.an p.ac) (show x0.cell? ⟨w.heap.size, 78, none⟩ = some (.slice p.aa p.an p.ac) from (A.cell 78).trans (pr_tl _ 4 _ rfl)) (by kernel_rfl) ?_
          refine wpList_frame (a' := { tmps := #[.agg (prCells p), .pointer (some ⟨w.heap.size, 0, none⟩), .bool false, .pointer (some ⟨w.heap.size, 78, none⟩), .slice p.aa p.an p.ac, undef, undef, undef, undef, undef, undef, undef, undef, undef, undef, undef, undef, undef, undef, undef, undef, undef, undef, undef, undef], defers := [] }) (by kernel_rfl) ?_
          refine step_val (w' := x0) rfl (.int .i64 (p.an : Int)) (by simp [go_sem]) ?_
          refine wpList_frame (a' := { tmps := #[.agg (prCells p), .pointer (some ⟨w.heap.size, 0, none⟩), .bool false, .pointer (some ⟨w.heap.size, 78, none⟩), .slice p.aa p.an p.ac, .int .i64 (p.an : Int), undef, undef, undef, undef, undef, undef, undef, undef, undef, undef, undef, undef, undef, undef, undef, undef, undef, undef, undef], defers := [] }) (by kernel_rfl) ?_
          refine step_val (w' := x0) rfl (.bool true) (by rw [show true = ((p.an : Int) == 0) from h1.out]; kernel_rfl) ?_
          refine wpList_frame (a' := { tmps := #[.agg (prCells p), .pointer (some ⟨w.heap.size, 0, none⟩), .bool false, .pointer (some ⟨w.heap.size, 78, none⟩), .slice p.aa p.an p.ac, .int .i64 (p.an : Int), .bool true, undef, undef, undef, undef, undef, undef, undef, undef, undef, undef, undef, undef, undef, undef, undef, undef, undef, undef], defers := [] }) (by kernel_rfl) ?_
          refine move_step rfl _ rfl ?_
          refine wpList_frame (a' := { tmps := #[.agg (prCells p), .pointer (some ⟨w.heap.size, 0, none⟩), .bool false, .pointer (some ⟨w.heap.size, 78, none⟩), .slice p.aa p.an p.ac, .int .i64 (p.an : Int), .bool true, .bool true, undef, undef, undef, undef, undef, undef, undef, undef, undef, undef, undef, undef, undef, undef, undef, undef, undef], defers := [] }) (by kernel_rfl) ?_
          refine want_val (w' := x0) (by kernel_rfl) (.pointer (some ⟨w.heap.size, 77, none⟩)) (by kernel_rfl) ?_
          refine wpList_frame (a' := { tmps := #[.agg (prCells p), .pointer (some ⟨w.heap.size, 0, none⟩), .bool false, .pointer (some ⟨w.heap.size, 78, none⟩), .slice p.aa p.an p.ac, .int .i64 (p.an : Int), .bool true, .bool true, .pointer (some ⟨w.heap.size, 77, none⟩), undef, undef, undef, undef, undef, undef, undef, undef, undef, undef, undef, undef, undef, undef, undef, undef], defers := [] }) (by kernel_rfl) ?_
          refine want_cellv (by kernel_rfl) _ _ rfl _ rfl (.slice p.ba p.bn p.bc) (show x0.cell? ⟨w.heap.size, 77, none⟩ = some (.slice p.ba p.bn p.bc) from (A.cell 77).trans (pr_tl _ 3 _ rfl)) (by kernel_rfl) ?_
          refine wpList_frame (a' := { tmps := #[.agg (prCells p), .pointer (some ⟨w.heap.size, 0, none⟩), .bool false, .pointer (some ⟨w.heap.size, 78, none⟩), .slice p.aa p.an p.ac, .int .i64 (p.an : Int), .bool true, .bool true, .pointer (some ⟨w.heap.size, 77, none⟩), .slice p.ba p.bn p.bc, undef, undef, undef, undef, undef, undef, undef, undef, undef, undef, undef, undef, undef, undef, undef], defers := [] }) (by kernel_rfl) ?_
          refine want_val (w' := x0) (by kernel_rfl) (.int .i64 (p.bn : Int)) (by simp [go_sem]) ?_
          refine wpList_frame (a' := { tmps := #[.agg (prCells p), .pointer (some ⟨w.heap.size, 0, none⟩), .bool false, .pointer (some ⟨w.heap.size, 78, none⟩), .slice p.aa p.an p.ac, .int .i64 (p.an : Int), .bool true, .bool true, .pointer (some ⟨w.heap.size, 77, none⟩), .slice p.ba p.bn p.bc, .int .i64 (p.bn : Int), undef, undef, undef, undef, undef, undef, undef, undef, undef, undef, undef, undef, undef, undef], defers := [] }) (by kernel_rfl) ?_
          refine want_val (w' := x0) (by kernel_rfl) (.bool true) (by rw [show true = ((p.bn : Int) == 0) from h2.out]; kernel_rfl) ?_
          refine wpList_frame (a' := { tmps := #[.agg (prCells p), .pointer (some ⟨w.heap.size, 0, none⟩), .bool false, .pointer (some ⟨w.heap.size, 78, none⟩), .slice p.aa p.an p.ac, .int .i64 (p.an : Int), .bool true, .bool true, .pointer (some ⟨w.heap.size, 77, none⟩), .slice p.ba p.bn p.bc, .int .i64 (p.bn : Int), .bool true, undef, undef, undef, undef, undef, undef, undef, undef, undef, undef, undef, undef, undef], defers := [] }) (by kernel_rfl) ?_
          refine step_val (w' := x0) rfl (.bool true) (by kernel_rfl) ?_
          refine wpList_frame (a' := { tmps := #[.agg (prCells p), .pointer (some ⟨w.heap.size, 0, none⟩), .bool false, .pointer (some ⟨w.heap.size, 78, none⟩), .slice p.aa p.an p.ac, .int .i64 (p.an : Int), .bool true, .bool true, .pointer (some ⟨w.heap.size, 77, none⟩), .slice p.ba p.bn p.bc, .int .i64 (p.bn : Int), .bool true, .bool true, undef, undef, undef, undef, undef, undef, undef, undef, undef, undef, undef, undef], defers := [] }) (by kernel_rfl) ?_
          refine move_step rfl _ rfl ?_
          refine wpList_frame (a' := { tmps := #[.agg (prCells p), .pointer (some ⟨w.heap.size, 0, none⟩), .bool false, .pointer (some ⟨w.heap.size, 78, none⟩), .slice p.aa p.an p.ac, .int .i64 (p.an : Int), .bool true, .bool true, .pointer (some ⟨w.heap.size, 77, none⟩), .slice p.ba p.bn p.bc, .int .i64 (p.bn : Int), .bool true, .bool true, .bool true, undef, undef, undef, undef, undef, undef, undef, undef, undef, undef, undef], defers := [] }) (by kernel_rfl) ?_
          refine want_val (w' := x0) (by kernel_rfl) (.pointer (some ⟨w.heap.size, 0, none⟩)) (by kernel_rfl) ?_
          refine wpList_frame (a' := { tmps := #[.agg (prCells p), .pointer (some ⟨w.heap.size, 0, none⟩), .bool false, .pointer (some ⟨w.heap.size, 78, none⟩), .slice p.aa p.an p.ac, .int .i64 (p.an : Int), .bool true, .bool true, .pointer (some ⟨w.heap.size, 77, none⟩), .slice p.ba p.bn p.bc, .int .i64 (p.bn : Int), .bool true, .bool true, .bool true, .pointer (some ⟨w.heap.size, 0, none⟩), undef, undef, undef, undef, undef, undef, undef, undef, undef, undef], defers := [] }) (by kernel_rfl) ?_
          refine want_pa cn_big A (by kernel_rfl) _ rfl rfl ?_
          refine wpList_frame (a' := { tmps := #[.agg (prCells p), .pointer (some ⟨w.heap.size, 0, none⟩), .bool false, .pointer (some ⟨w.heap.size, 78, none⟩), .slice p.aa p.an p.ac, .int .i64 (p.an : Int), .bool true, .bool true, .pointer (some ⟨w.heap.size, 77, none⟩), .slice p.ba p.bn p.bc, .int .i64 (p.bn : Int), .bool true, .bool true, .bool true, .pointer (some ⟨w.heap.size, 0, none⟩), .agg (cnCells p.a), undef, undef, undef, undef, undef, undef, undef, undef, undef], defers := [] }) (by kernel_rfl) ?_
          refine want_call (by kernel_rfl) 24 #[.agg (cnCells p.a)] (by kernel_rfl) (specDue p.a _) ?_
          rintro _ qw1 ⟨rfl, qg2⟩
          refine ⟨_, rfl, ?_⟩
          replace A := A.since qg2
          replace G := G.trans qg2
          have qg2_s := qg2.size
          refine wpList_frame (a' := { tmps := #[.agg (prCells p), .pointer (some ⟨w.heap.size, 0, none⟩), .bool false, .pointer (some ⟨w.heap.size, 78, none⟩), .slice p.aa p.an p.ac, .int .i64 (p.an : Int), .bool true, .bool true, .pointer (some ⟨w.heap.size, 77, none⟩), .slice p.ba p.bn p.bc, .int .i64 (p.bn : Int), .bool true, .bool true, .bool true, .pointer (some ⟨w.heap.size, 0, none⟩), .agg (cnCells p.a), .int .i64 (dueC p.a), undef, undef, undef, undef, undef, undef, undef, undef], defers := [] }) (by kernel_rfl) ?_
          refine want_val (w' := qw1) (by kernel_rfl) (.bool true) (by rw [show true = (dueC p.a == 0) from (by rw [due_waits, ← h3.out]; rfl)]; kernel_rfl) ?_
          refine wpList_frame (a' := { tmps := #[.agg (prCells p), .pointer (some ⟨w.heap.size, 0, none⟩), .bool false, .pointer (some ⟨w.heap.size, 78, none⟩), .slice p.aa p.an p.ac, .int .i64 (p.an : Int), .bool true, .bool true, .pointer (some ⟨w.heap.size, 77, none⟩), .slice p.ba p.bn p.bc, .int .i64 (p.bn : Int), .bool true, .bool true, .bool true, .pointer (some ⟨w.heap.size, 0, none⟩), .agg (cnCells p.a), .int .i64 (dueC p.a), .bool true, undef, undef, undef, undef, undef, undef, undef], defers := [] }) (by kernel_rfl) ?_
          refine step_val (w' := qw1) rfl (.bool true) (by kernel_rfl) ?_
          refine wpList_frame (a' := { tmps := #[.agg (prCells p), .pointer (some ⟨w.heap.size, 0, none⟩), .bool false, .pointer (some ⟨w.heap.size, 78, none⟩), .slice p.aa p.an p.ac, .int .i64 (p.an : Int), .bool true, .bool true, .pointer (some ⟨w.heap.size, 77, none⟩), .slice p.ba p.bn p.bc, .int .i64 (p.bn : Int), .bool true, .bool true, .bool true, .pointer (some ⟨w.heap.size, 0, none⟩), .agg (cnCells p.a), .int .i64 (dueC p.a), .bool true, .bool true, undef, undef, undef, undef, undef, undef], defers := [] }) (by kernel_rfl) ?_
          refine move_step rfl _ rfl ?_
          refine wpList_frame (a' := { tmps := #[.agg (prCells p), .pointer (some ⟨w.heap.size, 0, none⟩), .bool false, .pointer (some ⟨w.heap.size, 78, none⟩), .slice p.aa p.an p.ac, .int .i64 (p.an : Int), .bool true, .bool true, .pointer (some ⟨w.heap.size, 77, none⟩), .slice p.ba p.bn p.bc, .int .i64 (p.bn : Int), .bool true, .bool true, .bool true, .pointer (some ⟨w.heap.size, 0, none⟩), .agg (cnCells p.a), .int .i64 (dueC p.a), .bool true, .bool true, .bool true, undef, undef, undef, undef, undef], defers := [] }) (by kernel_rfl) ?_
          refine want_val (w' := qw1) (by kernel_rfl) (.pointer (some ⟨w.heap.size, 37, none⟩)) (by kernel_rfl) ?_
          refine wpList_frame (a' := { tmps := #[.agg (prCells p), .pointer (some ⟨w.heap.size, 0, none⟩), .bool false, .pointer (some ⟨w.heap.size, 78, none⟩), .slice p.aa p.an p.ac, .int .i64 (p.an : Int), .bool true, .bool true, .pointer (some ⟨w.heap.size, 77, none⟩), .slice p.ba p.bn p.bc, .int .i64 (p.bn : Int), .bool true, .bool true, .bool true, .pointer (some ⟨w.heap.size, 0, none⟩), .agg (cnCells p.a), .int .i64 (dueC p.a), .bool true, .bool true, .bool true, .pointer (some ⟨w.heap.size, 37, none⟩), undef, undef, undef, undef], defers := [] }) (by kernel_rfl) ?_
          refine want_pb cn_big A (by kernel_rfl) _ rfl rfl ?_
          refine wpList_frame (a' := { tmps := #[.agg (prCells p), .pointer (some ⟨w.heap.size, 0, none⟩), .bool false, .pointer (some ⟨w.heap.size, 78, none⟩), .slice p.aa p.an p.ac, .int .i64 (p.an : Int), .bool true, .bool true, .pointer (some ⟨w.heap.size, 77, none⟩), .slice p.ba p.bn p.bc, .int .i64 (p.bn : Int), .bool true, .bool true, .bool true, .pointer (some ⟨w.heap.size, 0, none⟩), .agg (cnCells p.a), .int .i64 (dueC p.a), .bool true, .bool true, .bool true, .pointer (some ⟨w.heap.size, 37, none⟩), .agg (cnCells p.b), undef, undef, undef], defers := [] }) (by kernel_rfl) ?_
          refine want_call (by kernel_rfl) 24 #[.agg (cnCells p.b)] (by kernel_rfl) (specDue p.b _) ?_
          rintro _ qw3 ⟨rfl, qg4⟩
          refine ⟨_, rfl, ?_⟩
          replace A := A.since qg4
          replace G := G.trans qg4
          have qg4_s := qg4.size
          refine wpList_frame (a' := { tmps := #[.agg (prCells p), .pointer (some ⟨w.heap.size, 0, none⟩), .bool false, .pointer (some ⟨w.heap.size, 78, none⟩), .slice p.aa p.an p.ac, .int .i64 (p.an : Int), .bool true, .bool true, .pointer (some ⟨w.heap.size, 77, none⟩), .slice p.ba p.bn p.bc, .int .i64 (p.bn : Int), .bool true, .bool true, .bool true, .pointer (some ⟨w.heap.size, 0, none⟩), .agg (cnCells p.a), .int .i64 (dueC p.a), .bool true, .bool true, .bool true, .pointer (some ⟨w.heap.size, 37, none⟩), .agg (cnCells p.b), .int .i64 (dueC p.b), undef, undef], defers := [] }) (by kernel_rfl) ?_
          refine want_val (w' := qw3) (by kernel_rfl) (.bool false) (by rw [show false = (dueC p.b == 0) from (by rw [due_waits, ← h4.out]; rfl)]; kernel_rfl) ?_
          refine wpList_frame (a' := { tmps := #[.agg (prCells p), .pointer (some ⟨w.heap.size, 0, none⟩), .bool false, .pointer (some ⟨w.heap.size, 78, none⟩), .slice p.aa p.an p.ac, .int .i64 (p.an : Int), .bool true, .bool true, .pointer (some ⟨w.heap.size, 77, none⟩), .slice p.ba p.bn p.bc, .int .i64 (p.bn : Int), .bool true, .bool true, .bool true, .pointer (some ⟨w.heap.size, 0, none⟩), .agg (cnCells p.a), .int .i64 (dueC p.a), .bool true, .bool true, .bool true, .pointer (some ⟨w.heap.size, 37, none⟩), .agg (cnCells p.b), .int .i64 (dueC p.b), .bool false, undef], defers := [] }) (by kernel_rfl) ?_
          refine step_val (w' := qw3) rfl (.bool false) (by kernel_rfl) ?_
          refine wpList_frame (a' := { tmps := #[.agg (prCells p), .pointer (some ⟨w.heap.size, 0, none⟩), .bool false, .pointer (some ⟨w.heap.size, 78, none⟩), .slice p.aa p.an p.ac, .int .i64 (p.an : Int), .bool true, .bool true, .pointer (some ⟨w.heap.size, 77, none⟩), .slice p.ba p.bn p.bc, .int .i64 (p.bn : Int), .bool true, .bool true, .bool true, .pointer (some ⟨w.heap.size, 0, none⟩), .agg (cnCells p.a), .int .i64 (dueC p.a), .bool true, .bool true, .bool true, .pointer (some ⟨w.heap.size, 37, none⟩), .agg (cnCells p.b), .int .i64 (dueC p.b), .bool false, .bool false], defers := [] }) (by kernel_rfl) ?_
          refine step_val (w' := qw3) rfl (.bool false) (by kernel_rfl) ?_
          refine wpList_frame (a' := { tmps := #[.agg (prCells p), .pointer (some ⟨w.heap.size, 0, none⟩), .bool false, .pointer (some ⟨w.heap.size, 78, none⟩), .slice p.aa p.an p.ac, .int .i64 (p.an : Int), .bool true, .bool true, .pointer (some ⟨w.heap.size, 77, none⟩), .slice p.ba p.bn p.bc, .int .i64 (p.bn : Int), .bool true, .bool true, .bool true, .pointer (some ⟨w.heap.size, 0, none⟩), .agg (cnCells p.a), .int .i64 (dueC p.a), .bool true, .bool true, .bool true, .pointer (some ⟨w.heap.size, 37, none⟩), .agg (cnCells p.b), .int .i64 (dueC p.b), .bool false, .bool false], defers := [] }) (by kernel_rfl) ?_
          go_wp2_with (fail)
          go_ret
          exact ⟨by rw [show v = false from hv.out.trans (by unfold overB; rw [decide_eq_true (show p.an = 0 by have := h1.out; simpa using this.symm), decide_eq_true (show p.bn = 0 by have := h2.out; simpa using this.symm), ← h3.out, ← h4.out]; rfl)]; rfl, G⟩
        case false =>
          refine wp_region_lit ?_
          refine step_val (w' := x0) rfl (.pointer (some ⟨w.heap.size, 78, none⟩)) (by kernel_rfl) ?_
          refine wpList_frame (a' := { tmps := #[.agg (prCells p), .pointer (some ⟨w.heap.size, 0, none⟩), .bool false, .pointer (some ⟨w.heap.size, 78, none⟩), undef, undef, undef, undef, undef, undef, undef, undef, undef, undef, undef, undef, undef, undef, undef, undef, undef, undef, undef, undef, undef], defers := [] }) (by kernel_rfl) ?_
          refine load_cell rfl _ _ rfl _ rfl (.slice p.aa p.an p.ac) (show x0.cell? ⟨w.heap.size, 78, none⟩ = some (.slice p.aa p.an p.ac) from (A.cell 78).trans (pr_tl _ 4 _ rfl)) (by kernel_rfl) ?_
          refine wpList_frame (a' := { tmps := #[.agg (prCells p), .pointer (some ⟨w.heap.size, 0, none⟩), .bool false, .pointer (some ⟨w.heap.size, 78, none⟩), .slice p.aa p.an p.ac, undef, undef, undef, undef, undef, undef, undef, undef, undef, undef, undef, undef, undef, undef, undef, undef, undef, undef, undef, undef], defers := [] }) (by kernel_rfl) ?_
          refine step_val (w' := x0) rfl (.int .i64 (p.an : Int)) (by simp [go_sem]) ?_
          refine wpList_frame (a' := { tmps := #[.agg (prCells p), .pointer (some ⟨w.heap.size, 0, none⟩), .bool false, .pointer (some ⟨w.heap.size, 78, none⟩), .slice p.aa p.an p.ac, .int .i64 (p.an : Int), undef, undef, undef, undef, undef, undef, undef, undef, undef, undef, undef, undef, undef, undef, undef, undef, undef, undef, undef], defers := [] }) (by kernel_rfl) ?_
          refine step_val (w' := x0) rfl (.bool true) (by rw [show true = ((p.an : Int) == 0) from h1.out]; kernel_rfl) ?_
          refine wpList_frame (a' := { tmps := #[.agg (prCells p), .pointer (some ⟨w.heap.size, 0, none⟩), .bool false, .pointer (some ⟨w.heap.size, 78, none⟩), .slice p.aa p.an p.ac, .int .i64 (p.an : Int), .bool true, undef, undef, undef, undef, undef, undef, undef, undef, undef, undef, undef, undef, undef, undef, undef, undef, undef, undef], defers := [] }) (by kernel_rfl) ?_
          refine move_step rfl _ rfl ?_
          refine wpList_frame (a' := { tmps := #[.agg (prCells p), .pointer (some ⟨w.heap.size, 0, none⟩), .bool false, .pointer (some ⟨w.heap.size, 78, none⟩), .slice p.aa p.an p.ac, .int .i64 (p.an : Int), .bool true, .bool true, undef, undef, undef, undef, undef, undef, undef, undef, undef, undef, undef, undef, undef, undef, undef, undef, undef], defers := [] }) (by kernel_rfl) ?_
          refine want_val (w' := x0) (by kernel_rfl) (.pointer (some ⟨w.heap.size, 77, none⟩)) (by kernel_rfl) ?_
          refine wpList_frame (a' := { tmps := #[.agg (prCells p), .pointer (some ⟨w.heap.size, 0, none⟩), .bool false, .pointer (some ⟨w.heap.size, 78, none⟩), .slice p.aa p.an p.ac, .int .i64 (p.an : Int), .bool true, .bool true, .pointer (some ⟨w.heap.size, 77, none⟩), undef, undef, undef, undef, undef, undef, undef, undef, undef, undef, undef, undef, undef, undef, undef, undef], defers := [] }) (by kernel_rfl) ?_
          refine want_cellv (by kernel_rfl) _ _ rfl _ rfl (.slice p.ba p.bn p.bc) (show x0.cell? ⟨w.heap.size, 77, none⟩ = some (.slice p.ba p.bn p.bc) from (A.cell 77).trans (pr_tl _ 3 _ rfl)) (by kernel_rfl) ?_
          refine wpList_frame (a' := { tmps := #[.agg (prCells p), .pointer (some ⟨w.heap.size, 0, none⟩), .bool false, .pointer (some ⟨w.heap.size, 78, none⟩), .slice p.aa p.an p.ac, .int .i64 (p.an : Int), .bool true, .bool true, .pointer (some ⟨w.heap.size, 77, none⟩), .slice p.ba p.bn p.bc, undef, undef, undef, undef, undef, undef, undef, undef, undef, undef, undef, undef, undef, undef, undef], defers := [] }) (by kernel_rfl) ?_
          refine want_val (w' := x0) (by kernel_rfl) (.int .i64 (p.bn : Int)) (by simp [go_sem]) ?_
          refine wpList_frame (a' := { tmps := #[.agg (prCells p), .pointer (some ⟨w.heap.size, 0, none⟩), .bool false, .pointer (some ⟨w.heap.size, 78, none⟩), .slice p.aa p.an p.ac, .int .i64 (p.an : Int), .bool true, .bool true, .pointer (some ⟨w.heap.size, 77, none⟩), .slice p.ba p.bn p.bc, .int .i64 (p.bn : Int), undef, undef, undef, undef, undef, undef, undef, undef, undef, undef, undef, undef, undef, undef], defers := [] }) (by kernel_rfl) ?_
          refine want_val (w' := x0) (by kernel_rfl) (.bool true) (by rw [show true = ((p.bn : Int) == 0) from h2.out]; kernel_rfl) ?_
          refine wpList_frame (a' := { tmps := #[.agg (prCells p), .pointer (some ⟨w.heap.size, 0, none⟩), .bool false, .pointer (some ⟨w.heap.size, 78, none⟩), .slice p.aa p.an p.ac, .int .i64 (p.an : Int), .bool true, .bool true, .pointer (some ⟨w.heap.size, 77, none⟩), .slice p.ba p.bn p.bc, .int .i64 (p.bn : Int), .bool true, undef, undef, undef, undef, undef, undef, undef, undef, undef, undef, undef, undef, undef], defers := [] }) (by kernel_rfl) ?_
          refine step_val (w' := x0) rfl (.bool true) (by kernel_rfl) ?_
          refine wpList_frame (a' := { tmps := #[.agg (prCells p), .pointer (some ⟨w.heap.size, 0, none⟩), .bool false, .pointer (some ⟨w.heap.size, 78, none⟩), .slice p.aa p.an p.ac, .int .i64 (p.an : Int), .bool true, .bool true, .pointer (some ⟨w.heap.size, 77, none⟩), .slice p.ba p.bn p.bc, .int .i64 (p.bn : Int), .bool true, .bool true, undef, undef, undef, undef, undef, undef, undef, undef, undef, undef, undef, undef], defers := [] }) (by kernel_rfl) ?_
          refine move_step rfl _ rfl ?_
          refine wpList_frame (a' := { tmps := #[.agg (prCells p), .pointer (some ⟨w.heap.size, 0, none⟩), .bool false, .pointer (some ⟨w.heap.size, 78, none⟩), .slice p.aa p.an p.ac, .int .i64 (p.an : Int), .bool true, .bool true, .pointer (some ⟨w.heap.size, 77, none⟩), .slice p.ba p.bn p.bc, .int .i64 (p.bn : Int), .bool true, .bool true, .bool true, undef, undef, undef, undef, undef, undef, undef, undef, undef, undef, undef], defers := [] }) (by kernel_rfl) ?_
          refine want_val (w' := x0) (by kernel_rfl) (.pointer (some ⟨w.heap.size, 0, none⟩)) (by kernel_rfl) ?_
          refine wpList_frame (a' := { tmps := #[.agg (prCells p), .pointer (some ⟨w.heap.size, 0, none⟩), .bool false, .pointer (some ⟨w.heap.size, 78, none⟩), .slice p.aa p.an p.ac, .int .i64 (p.an : Int), .bool true, .bool true, .pointer (some ⟨w.heap.size, 77, none⟩), .slice p.ba p.bn p.bc, .int .i64 (p.bn : Int), .bool true, .bool true, .bool true, .pointer (some ⟨w.heap.size, 0, none⟩), undef, undef, undef, undef, undef, undef, undef, undef, undef, undef], defers := [] }) (by kernel_rfl) ?_
          refine want_pa cn_big A (by kernel_rfl) _ rfl rfl ?_
          refine wpList_frame (a' := { tmps := #[.agg (prCells p), .pointer (some ⟨w.heap.size, 0, none⟩), .bool false, .pointer (some ⟨w.heap.size, 78, none⟩), .slice p.aa p.an p.ac, .int .i64 (p.an : Int), .bool true, .bool true, .pointer (some ⟨w.heap.size, 77, none⟩), .slice p.ba p.bn p.bc, .int .i64 (p.bn : Int), .bool true, .bool true, .bool true, .pointer (some ⟨w.heap.size, 0, none⟩), .agg (cnCells p.a), undef, undef, undef, undef, undef, undef, undef, undef, undef], defers := [] }) (by kernel_rfl) ?_
          refine want_call (by kernel_rfl) 24 #[.agg (cnCells p.a)] (by kernel_rfl) (specDue p.a _) ?_
          rintro _ qw1 ⟨rfl, qg2⟩
          refine ⟨_, rfl, ?_⟩
          replace A := A.since qg2
          replace G := G.trans qg2
          have qg2_s := qg2.size
          refine wpList_frame (a' := { tmps := #[.agg (prCells p), .pointer (some ⟨w.heap.size, 0, none⟩), .bool false, .pointer (some ⟨w.heap.size, 78, none⟩), .slice p.aa p.an p.ac, .int .i64 (p.an : Int), .bool true, .bool true, .pointer (some ⟨w.heap.size, 77, none⟩), .slice p.ba p.bn p.bc, .int .i64 (p.bn : Int), .bool true, .bool true, .bool true, .pointer (some ⟨w.heap.size, 0, none⟩), .agg (cnCells p.a), .int .i64 (dueC p.a), undef, undef, undef, undef, undef, undef, undef, undef], defers := [] }) (by kernel_rfl) ?_
          refine want_val (w' := qw1) (by kernel_rfl) (.bool true) (by rw [show true = (dueC p.a == 0) from (by rw [due_waits, ← h3.out]; rfl)]; kernel_rfl) ?_
          refine wpList_frame (a' := { tmps := #[.agg (prCells p), .pointer (some ⟨w.heap.size, 0, none⟩), .bool false, .pointer (some ⟨w.heap.size, 78, none⟩), .slice p.aa p.an p.ac, .int .i64 (p.an : Int), .bool true, .bool true, .pointer (some ⟨w.heap.size, 77, none⟩), .slice p.ba p.bn p.bc, .int .i64 (p.bn : Int), .bool true, .bool true, .bool true, .pointer (some ⟨w.heap.size, 0, none⟩), .agg (cnCells p.a), .int .i64 (dueC p.a), .bool true, undef, undef, undef, undef, undef, undef, undef], defers := [] }) (by kernel_rfl) ?_
          refine step_val (w' := qw1) rfl (.bool true) (by kernel_rfl) ?_
          refine wpList_frame (a' := { tmps := #[.agg (prCells p), .pointer (some ⟨w.heap.size, 0, none⟩), .bool false, .pointer (some ⟨w.heap.size, 78, none⟩), .slice p.aa p.an p.ac, .int .i64 (p.an : Int), .bool true, .bool true, .pointer (some ⟨w.heap.size, 77, none⟩), .slice p.ba p.bn p.bc, .int .i64 (p.bn : Int), .bool true, .bool true, .bool true, .pointer (some ⟨w.heap.size, 0, none⟩), .agg (cnCells p.a), .int .i64 (dueC p.a), .bool true, .bool true, undef, undef, undef, undef, undef, undef], defers := [] }) (by kernel_rfl) ?_
          refine move_step rfl _ rfl ?_
          refine wpList_frame (a' := { tmps := #[.agg (prCells p), .pointer (some ⟨w.heap.size, 0, none⟩), .bool false, .pointer (some ⟨w.heap.size, 78, none⟩), .slice p.aa p.an p.ac, .int .i64 (p.an : Int), .bool true, .bool true, .pointer (some ⟨w.heap.size, 77, none⟩), .slice p.ba p.bn p.bc, .int .i64 (p.bn : Int), .bool true, .bool true, .bool true, .pointer (some ⟨w.heap.size, 0, none⟩), .agg (cnCells p.a), .int .i64 (dueC p.a), .bool true, .bool true, .bool true, undef, undef, undef, undef, undef], defers := [] }) (by kernel_rfl) ?_
          refine want_val (w' := qw1) (by kernel_rfl) (.pointer (some ⟨w.heap.size, 37, none⟩)) (by kernel_rfl) ?_
          refine wpList_frame (a' := { tmps := #[.agg (prCells p), .pointer (some ⟨w.heap.size, 0, none⟩), .bool false, .pointer (some ⟨w.heap.size, 78, none⟩), .slice p.aa p.an p.ac, .int .i64 (p.an : Int), .bool true, .bool true, .pointer (some ⟨w.heap.size, 77, none⟩), .slice p.ba p.bn p.bc, .int .i64 (p.bn : Int), .bool true, .bool true, .bool true, .pointer (some ⟨w.heap.size, 0, none⟩), .agg (cnCells p.a), .int .i64 (dueC p.a), .bool true, .bool true, .bool true, .pointer (some ⟨w.heap.size, 37, none⟩), undef, undef, undef, undef], defers := [] }) (by kernel_rfl) ?_
          refine want_pb cn_big A (by kernel_rfl) _ rfl rfl ?_
          refine wpList_frame (a' := { tmps := #[.agg (prCells p), .pointer (some ⟨w.heap.size, 0, none⟩), .bool false, .pointer (some ⟨w.heap.size, 78, none⟩), .slice p.aa p.an p.ac, .int .i64 (p.an : Int), .bool true, .bool true, .pointer (some ⟨w.heap.size, 77, none⟩), .slice p.ba p.bn p.bc, .int .i64 (p.bn : Int), .bool true, .bool true, .bool true, .pointer (some ⟨w.heap.size, 0, none⟩), .agg (cnCells p.a), .int .i64 (dueC p.a), .bool true, .bool true, .bool true, .pointer (some ⟨w.heap.size, 37, none⟩), .agg (cnCells p.b), undef, undef, undef], defers := [] }) (by kernel_rfl) ?_
          refine want_call (by kernel_rfl) 24 #[.agg (cnCells p.b)] (by kernel_rfl) (specDue p.b _) ?_
          rintro _ qw3 ⟨rfl, qg4⟩
          refine ⟨_, rfl, ?_⟩
          replace A := A.since qg4
          replace G := G.trans qg4
          have qg4_s := qg4.size
          refine wpList_frame (a' := { tmps := #[.agg (prCells p), .pointer (some ⟨w.heap.size, 0, none⟩), .bool false, .pointer (some ⟨w.heap.size, 78, none⟩), .slice p.aa p.an p.ac, .int .i64 (p.an : Int), .bool true, .bool true, .pointer (some ⟨w.heap.size, 77, none⟩), .slice p.ba p.bn p.bc, .int .i64 (p.bn : Int), .bool true, .bool true, .bool true, .pointer (some ⟨w.heap.size, 0, none⟩), .agg (cnCells p.a), .int .i64 (dueC p.a), .bool true, .bool true, .bool true, .pointer (some ⟨w.heap.size, 37, none⟩), .agg (cnCells p.b), .int .i64 (dueC p.b), undef, undef], defers := [] }) (by kernel_rfl) ?_
          refine want_val (w' := qw3) (by kernel_rfl) (.bool true) (by rw [show true = (dueC p.b == 0) from (by rw [due_waits, ← h4.out]; rfl)]; kernel_rfl) ?_
          refine wpList_frame (a' := { tmps := #[.agg (prCells p), .pointer (some ⟨w.heap.size, 0, none⟩), .bool false, .pointer (some ⟨w.heap.size, 78, none⟩), .slice p.aa p.an p.ac, .int .i64 (p.an : Int), .bool true, .bool true, .pointer (some ⟨w.heap.size, 77, none⟩), .slice p.ba p.bn p.bc, .int .i64 (p.bn : Int), .bool true, .bool true, .bool true, .pointer (some ⟨w.heap.size, 0, none⟩), .agg (cnCells p.a), .int .i64 (dueC p.a), .bool true, .bool true, .bool true, .pointer (some ⟨w.heap.size, 37, none⟩), .agg (cnCells p.b), .int .i64 (dueC p.b), .bool true, undef], defers := [] }) (by kernel_rfl) ?_
          refine step_val (w' := qw3) rfl (.bool true) (by kernel_rfl) ?_
          refine wpList_frame (a' := { tmps := #[.agg (prCells p), .pointer (some ⟨w.heap.size, 0, none⟩), .bool false, .pointer (some ⟨w.heap.size, 78, none⟩), .slice p.aa p.an p.ac, .int .i64 (p.an : Int), .bool true, .bool true, .pointer (some ⟨w.heap.size, 77, none⟩), .slice p.ba p.bn p.bc, .int .i64 (p.bn : Int), .bool true, .bool true, .bool true, .pointer (some ⟨w.heap.size, 0, none⟩), .agg (cnCells p.a), .int .i64 (dueC p.a), .bool true, .bool true, .bool true, .pointer (some ⟨w.heap.size, 37, none⟩), .agg (cnCells p.b), .int .i64 (dueC p.b), .bool true, .bool true], defers := [] }) (by kernel_rfl) ?_
          refine step_val (w' := qw3) rfl (.bool true) (by kernel_rfl) ?_
          refine wpList_frame (a' := { tmps := #[.agg (prCells p), .pointer (some ⟨w.heap.size, 0, none⟩), .bool true, .pointer (some ⟨w.heap.size, 78, none⟩), .slice p.aa p.an p.ac, .int .i64 (p.an : Int), .bool true, .bool true, .pointer (some ⟨w.heap.size, 77, none⟩), .slice p.ba p.bn p.bc, .int .i64 (p.bn : Int), .bool true, .bool true, .bool true, .pointer (some ⟨w.heap.size, 0, none⟩), .agg (cnCells p.a), .int .i64 (dueC p.a), .bool true, .bool true, .bool true, .pointer (some ⟨w.heap.size, 37, none⟩), .agg (cnCells p.b), .int .i64 (dueC p.b), .bool true, .bool true], defers := [] }) (by kernel_rfl) ?_
          go_wp2_with (fail)
          go_ret
          exact ⟨by rw [show v = true from hv.out.trans (by unfold overB; rw [decide_eq_true (show p.an = 0 by have := h1.out; simpa using this.symm), decide_eq_true (show p.bn = 0 by have := h2.out; simpa using this.symm), ← h3.out, ← h4.out]; rfl)]; rfl, G⟩

set_option maxRecDepth 20000 in
set_option maxHeartbeats 8000000 in
theorem implOver (p : Pr) (w : World) : Calls Try.prog 13 #[.agg (prCells p)] w fun e w' => e = .returned (.bool (overB p)) ∧ Since w w' := by
  obtain ⟨v, hv⟩ : ∃ q, Hid (q = overB p) := ⟨_, rfl⟩
  rw [← hv.out]
  obtain ⟨b1, h1⟩ : ∃ q, Hid (q = ((p.an : Int) == 0)) := ⟨_, rfl⟩
  obtain ⟨b2, h2⟩ : ∃ q, Hid (q = ((p.bn : Int) == 0)) := ⟨_, rfl⟩
  have hwA := fun wx => implWaits p.a wx
  have hwB := fun wx => implWaits p.b wx
  obtain ⟨b3, h3⟩ : ∃ q, Hid (q = waitsB p.a) := ⟨_, rfl⟩
  obtain ⟨b4, h4⟩ : ∃ q, Hid (q = waitsB p.b) := ⟨_, rfl⟩
  rw [← h3.out] at hwA
  rw [← h4.out] at hwB
  have G := (Since.refl w).alloc (.cells (prCells p) 36)
  have A := Blk.new w (prCells p) 36
  go_enter Try.func13, Try.ntmps13
  go_upto_region 1 with (fail)
  generalize w.alloc (.cells (prCells p) 36) = x0 at A G ⊢
  cases b1
  case false =>
    refine wp_region_lit ?_
    refine step_val (w' := x0) rfl (.pointer (some ⟨w.heap.size, 78, none⟩)) (by kernel_rfl) ?_
    refine wpList_frame (a' := { tmps := #[.agg (prCells p), .pointer (some ⟨w.heap.size, 0, none⟩), .bool false, .pointer (some ⟨w.heap.size, 78, none⟩), undef, undef, undef, undef, undef, undef, undef, undef, undef, undef, undef, undef, undef, undef, undef, undef, undef, undef, undef, undef, undef], defers := [] }) (by kernel_rfl) ?_
    refine load_cell rfl _ _ rfl _ rfl (.slice p.aa p.an p.ac) (show x0.cell? ⟨w.heap.size, 78, none⟩ = some (.slice p.aa p.an p.ac) from (A.cell 78).trans (pr_tl _ 4 _ rfl)) (by kernel_rfl) ?_
    refine wpList_frame (a' := { tmps := #[.agg (prCells p), .pointer (some ⟨w.heap.size, 0, none⟩), .bool false, .pointer (some ⟨w.heap.size, 78, none⟩), .slice p.aa p.an p.ac, undef, undef, undef, undef, undef, undef, undef, undef, undef, undef, undef, undef, undef, undef, undef, undef, undef, undef, undef, undef], defers := [] }) (by kernel_rfl) ?_
    refine step_val (w' := x0) rfl (.int .i64 (p.an : Int)) (by simp [go_sem]) ?_
    refine wpList_frame (a' := { tmps := #[.agg (prCells p), .pointer (some ⟨w.heap.size, 0, none⟩), .bool false, .pointer (some ⟨w.heap.size, 78, none⟩), .slice p.aa p.an p.ac, .int .i64 (p.an : Int), undef, undef, undef, undef, undef, undef, undef, undef, undef, undef, undef, undef, undef, undef, undef, undef, undef, undef, undef], defers := [] }) (by kernel_rfl) ?_
    refine step_val (w' := x0) rfl (.bool false) (by rw [show false = ((p.an : Int) == 0) from h1.out]; kernel_rfl) ?_
    refine wpList_frame (a' := { tmps := #[.agg (prCells p), .pointer (some ⟨w.heap.size, 0, none⟩), .bool false, .pointer (some ⟨w.heap.size, 78, none⟩), .slice p.aa p.an p.ac, .int .i64 (p.an : Int), .bool false, undef, undef, undef, undef, undef, undef, undef, undef, undef, undef, undef, undef, undef, undef, undef, undef, undef, undef], defers := [] }) (by kernel_rfl) ?_
    refine move_step rfl _ rfl ?_
    refine wpList_frame (a' := { tmps := #[.agg (prCells p), .pointer (some ⟨w.heap.size, 0, none⟩), .bool false, .pointer (some ⟨w.heap.size, 78, none⟩), .slice p.aa p.an p.ac, .int .i64 (p.an : Int), .bool false, .bool false, undef, undef, undef, undef, undef, undef, undef, undef, undef, undef, undef, undef, undef, undef, undef, undef, undef], defers := [] }) (by kernel_rfl) ?_
    refine want_skip (by kernel_rfl) ?_
    refine wpList_frame (a' := { tmps := #[.agg (prCells p), .pointer (some ⟨w.heap.size, 0, none⟩), .bool false, .pointer (some ⟨w.heap.size, 78, none⟩), .slice p.aa p.an p.ac, .int .i64 (p.an : Int), .bool false, .bool false, undef, undef, undef, undef, undef, undef, undef, undef, undef, undef, undef, undef, undef, undef, undef, undef, undef], defers := [] }) (by kernel_rfl) ?_
    refine want_skip (by kernel_rfl) ?_
    refine wpList_frame (a' := { tmps := #[.agg (prCells p), .pointer (some ⟨w.heap.size, 0, none⟩), .bool false, .pointer (some ⟨w.heap.size, 78, none⟩), .slice p.aa p.an p.ac, .int .i64 (p.an : Int), .bool false, .bool false, undef, undef, undef, undef, undef, undef, undef, undef, undef, undef, undef, undef, undef, undef, undef, undef, undef], defers := [] }) (by kernel_rfl) ?_
    refine want_skip (by kernel_rfl) ?_
    refine wpList_frame (a' := { tmps := #[.agg (prCells p), .pointer (some ⟨w.heap.size, 0, none⟩), .bool false, .pointer (some ⟨w.heap.size, 78, none⟩), .slice p.aa p.an p.ac, .int .i64 (p.an : Int), .bool false, .bool false, undef, undef, undef, undef, undef, undef, undef, undef, undef, undef, undef, undef, undef, undef, undef, undef, undef], defers := [] }) (by kernel_rfl) ?_
    refine want_skip (by kernel_rfl) ?_
    refine wpList_frame (a' := { tmps := #[.agg (prCells p), .pointer (some ⟨w.heap.size, 0, none⟩), .bool false, .pointer (some ⟨w.heap.size, 78, none⟩), .slice p.aa p.an p.ac, .int .i64 (p.an : Int), .bool false, .bool false, undef, undef, undef, undef, undef, undef, undef, undef, undef, undef, undef, undef, undef, undef, undef, undef, undef], defers := [] }) (by kernel_rfl) ?_
    refine step_val (w' := x0) rfl (.bool false) (by kernel_rfl) ?_
    refine wpList_frame (a' := { tmps := #[.agg (prCells p), .pointer (some ⟨w.heap.size, 0, none⟩), .bool false, .pointer (some ⟨w.heap.size, 78, none⟩), .slice p.aa p.an p.ac, .int .i64 (p.an : Int), .bool false, .bool false, undef, undef, undef, undef, .bool false, undef, undef, undef, undef, undef, undef, undef, undef, undef, undef, undef, undef], defers := [] }) (by kernel_rfl) ?_
    refine move_step rfl _ rfl ?_
    refine wpList_frame (a' := { tmps := #[.agg (prCells p), .pointer (some ⟨w.heap.size, 0, none⟩), .bool false, .pointer (some ⟨w.heap.size, 78, none⟩), .slice p.aa p.an p.ac, .int .i64 (p.an : Int), .bool false, .bool false, undef, undef, undef, undef, .bool false, .bool false, undef, undef, undef, undef, undef, undef, undef, undef, undef, undef, undef], defers := [] }) (by kernel_rfl) ?_
    refine want_skip (by kernel_rfl) ?_
    refine wpList_frame (a' := { tmps := #[.agg (prCells p), .pointer (some ⟨w.heap.size, 0, none⟩), .bool false, .pointer (some ⟨w.heap.size, 78, none⟩), .slice p.aa p.an p.ac, .int .i64 (p.an : Int), .bool false, .bool false, undef, undef, undef, undef, .bool false, .bool false, undef, undef, undef, undef, undef, undef, undef, undef, undef, undef, undef], defers := [] }) (by kernel_rfl) ?_
    refine want_skip (by kernel_rfl) ?_
    refine wpList_frame (a' := { tmps := #[.agg (prCells p), .pointer (some ⟨w.heap.size, 0, none⟩), .bool false, .pointer (some ⟨w.heap.size, 78, none⟩), .slice p.aa p.an p.ac, .int .i64 (p.an : Int), .bool false, .bool false, undef, undef, undef, undef, .bool false, .bool false, undef, undef, undef, undef, undef, undef, undef, undef, undef, undef, undef], defers := [] }) (by kernel_rfl) ?_
    refine want_skip (by kernel_rfl) ?_
    refine wpList_frame (a' := { tmps := #[.agg (prCells p), .pointer (some ⟨w.heap.size, 0, none⟩), .bool false, .pointer (some ⟨w.heap.size, 78, none⟩), .slice p.aa p.an p.ac, .int .i64 (p.an : Int), .bool false, .bool false, undef, undef, undef, undef, .bool false, .bool false, undef, undef, undef, undef, undef, undef, undef, undef, undef, undef, undef], defers := [] }) (by kernel_rfl) ?_
    refine want_skip (by kernel_rfl) ?_
    refine wpList_frame (a' := { tmps := #[.agg (prCells p), .pointer (some ⟨w.heap.size, 0, none⟩), .bool false, .pointer (some ⟨w.heap.size, 78, none⟩), .slice p.aa p.an p.ac, .int .i64 (p.an : Int), .bool false, .bool false, undef, undef, undef, undef, .bool false, .bool false, undef, undef, undef, undef, undef, undef, undef, undef, undef, undef, undef], defers := [] }) (by kernel_rfl) ?_
    refine step_val (w' := x0) rfl (.bool false) (by kernel_rfl) ?_
    refine wpList_frame (a' := { tmps := #[.agg (prCells p), .pointer (some ⟨w.heap.size, 0, none⟩), .bool false, .pointer (some ⟨w.heap.size, 78, none⟩), .slice p.aa p.an p.ac, .int .i64 (p.an : Int), .bool false, .bool false, undef, undef, undef, undef, .bool false, .bool false, undef, undef, undef, undef, .bool false, undef, undef, undef, undef, undef, undef], defers := [] }) (by kernel_rfl) ?_
    refine move_step rfl _ rfl ?_
    refine wpList_frame (a' := { tmps := #[.agg (prCells p), .pointer (some ⟨w.heap.size, 0, none⟩), .bool false, .pointer (some ⟨w.heap.size, 78, none⟩), .slice p.aa p.an p.ac, .int .i64 (p.an : Int), .bool false, .bool false, undef, undef, undef, undef, .bool false, .bool false, undef, undef, undef, undef, .bool false, .bool false, undef, undef, undef, undef, undef], defers := [] }) (by kernel_rfl) ?_
    refine want_skip (by kernel_rfl) ?_
    refine wpList_frame (a' := { tmps := #[.agg (prCells p), .pointer (some ⟨w.heap.size, 0, none⟩), .bool false, .pointer (some ⟨w.heap.size, 78, none⟩), .slice p.aa p.an p.ac, .int .i64 (p.an : Int), .bool false, .bool false, undef, undef, undef, undef, .bool false, .bool false, undef, undef, undef, undef, .bool false, .bool false, undef, undef, undef, undef, undef], defers := [] }) (by kernel_rfl) ?_
    refine want_skip (by kernel_rfl) ?_
    refine wpList_frame (a' := { tmps := #[.agg (prCells p), .pointer (some ⟨w.heap.size, 0, none⟩), .bool false, .pointer (some ⟨w.heap.size, 78, none⟩), .slice p.aa p.an p.ac, .int .i64 (p.an : Int), .bool false, .bool false, undef, undef, undef, undef, .bool false, .bool false, undef, undef, undef, undef, .bool false, .bool false, undef, undef, undef, undef, undef], defers := [] }) (by kernel_rfl) ?_
    refine want_skip (by kernel_rfl) ?_
    refine wpList_frame (a' := { tmps := #[.agg (prCells p), .pointer (some ⟨w.heap.size, 0, none⟩), .bool false, .pointer (some ⟨w.heap.size, 78, none⟩), .slice p.aa p.an p.ac, .int .i64 (p.an : Int), .bool false, .bool false, undef, undef, undef, undef, .bool false, .bool false, undef, undef, undef, undef, .bool false, .bool false, undef, undef, undef, undef, undef], defers := [] }) (by kernel_rfl) ?_
    refine want_skip (by kernel_rfl) ?_
    refine wpList_frame (a' := { tmps := #[.agg (prCells p), .pointer (some ⟨w.heap.size, 0, none⟩), .bool false, .pointer (some ⟨w.heap.size, 78, none⟩), .slice p.aa p.an p.ac, .int .i64 (p.an : Int), .bool false, .bool false, undef, undef, undef, undef, .bool false, .bool false, undef, undef, undef, undef, .bool false, .bool false, undef, undef, undef, undef, undef], defers := [] }) (by kernel_rfl) ?_
    refine step_val (w' := x0) rfl (.bool false) (by kernel_rfl) ?_
    refine wpList_frame (a' := { tmps := #[.agg (prCells p), .pointer (some ⟨w.heap.size, 0, none⟩), .bool false, .pointer (some ⟨w.heap.size, 78, none⟩), .slice p.aa p.an p.ac, .int .i64 (p.an : Int), .bool false, .bool false, undef, undef, undef, undef, .bool false, .bool false, undef, undef, undef, undef, .bool false, .bool false, undef, undef, undef, undef, .bool false], defers := [] }) (by kernel_rfl) ?_
    refine step_val (w' := x0) rfl (.bool false) (by kernel_rfl) ?_
    refine wpList_frame (a' := { tmps := #[.agg (prCells p), .pointer (some ⟨w.heap.size, 0, none⟩), .bool false, .pointer (some ⟨w.heap.size, 78, none⟩), .slice p.aa p.an p.ac, .int .i64 (p.an : Int), .bool false, .bool false, undef, undef, undef, undef, .bool false, .bool false, undef, undef, undef, undef, .bool false, .bool false, undef, undef, undef, undef, .bool false], defers := [] }) (by kernel_rfl) ?_
    go_wp2_with (fail)
    go_ret
    exact ⟨by rw [show v = false from hv.out.trans (by unfold overB; rw [decide_eq_false (show ¬ p.an = 0 by have := h1.out; simpa using this.symm)]; rfl)]; rfl, G⟩
  case true =>
    cases b2
    case false =>
      refine wp_region_lit ?_
      refine step_val (w' := x0) rfl (.pointer (some ⟨w.heap.size, 78, none⟩)) (by kernel_rfl) ?_
      refine wpList_frame (a' := { tmps := #[.agg (prCells p), .pointer (some ⟨w.heap.size, 0, none⟩), .bool false, .pointer (some ⟨w.heap.size, 78, none⟩), undef, undef, undef, undef, undef, undef, undef, undef, undef, undef, undef, undef, undef, undef, undef, undef, undef, undef, undef, undef, undef], defers := [] }) (by kernel_rfl) ?_
      refine load_cell rfl _ _ rfl _ rfl (.slice p.aa p.an p.ac) (show x0.cell? ⟨w.heap.size, 78, none⟩ = some (.slice p.aa p.an p.ac) from (A.cell 78).trans (pr_tl _ 4 _ rfl)) (by kernel_rfl) ?_
      refine wpList_frame (a' := { tmps := #[.agg (prCells p), .pointer (some ⟨w.heap.size, 0, none⟩), .bool false, .pointer (some ⟨w.heap.size, 78, none⟩), .slice p.aa p.an p.ac, undef, undef, undef, undef, undef, undef, undef, undef, undef, undef, undef, undef, undef, undef, undef, undef, undef, undef, undef, undef], defers := [] }) (by kernel_rfl) ?_
      refine step_val (w' := x0) rfl (.int .i64 (p.an : Int)) (by simp [go_sem]) ?_
      refine wpList_frame (a' := { tmps := #[.agg (prCells p), .pointer (some ⟨w.heap.size, 0, none⟩), .bool false, .pointer (some ⟨w.heap.size, 78, none⟩), .slice p.aa p.an p.ac, .int .i64 (p.an : Int), undef, undef, undef, undef, undef, undef, undef, undef, undef, undef, undef, undef, undef, undef, undef, undef, undef, undef, undef], defers := [] }) (by kernel_rfl) ?_
      refine step_val (w' := x0) rfl (.bool true) (by rw [show true = ((p.an : Int) == 0) from h1.out]; kernel_rfl) ?_
      refine wpList_frame (a' := { tmps := #[.agg (prCells p), .pointer (some ⟨w.heap.size, 0, none⟩), .bool false, .pointer (some ⟨w.heap.size, 78, none⟩), .slice p.aa p.an p.ac, .int .i64 (p.an : Int), .bool true, undef, undef, undef, undef, undef, undef, undef, undef, undef, undef, undef, undef, undef, undef, undef, undef, undef, undef], defers := [] }) (by kernel_rfl) ?_
      refine move_step rfl _ rfl ?_
      refine wpList_frame (a' := { tmps := #[.agg (prCells p), .pointer (some ⟨w.heap.size, 0, none⟩), .bool false, .pointer (some ⟨w.heap.size, 78, none⟩), .slice p.aa p.an p.ac, .int .i64 (p.an : Int), .bool true, .bool true, undef, undef, undef, undef, undef, undef, undef, undef, undef, undef, undef, undef, undef, undef, undef, undef, undef], defers := [] }) (by kernel_rfl) ?_
      refine want_val (w' := x0) (by kernel_rfl) (.pointer (some ⟨w.heap.size, 77, none⟩)) (by kernel_rfl) ?_
      refine wpList_frame (a' := { tmps := #[.agg (prCells p), .pointer (some ⟨w.heap.size, 0, none⟩), .bool false, .pointer (some ⟨w.heap.size, 78, none⟩), .slice p.aa p.an p.ac, .int .i64 (p.an : Int), .bool true, .bool true, .pointer (some ⟨w.heap.size, 77, none⟩), undef, undef, undef, undef, undef, undef, undef, undef, undef, undef, undef, undef, undef, undef, undef, undef], defers := [] }) (by kernel_rfl) ?_
      refine want_cellv (by kernel_rfl) _ _ rfl _ rfl (.slice p.ba p.bn p.bc) (show x0.cell? ⟨w.heap.size, 77, none⟩ = some (.slice p.ba p.bn p.bc) from (A.cell 77).trans (pr_tl _ 3 _ rfl)) (by kernel_rfl) ?_
      refine wpList_frame (a' := { tmps := #[.agg (prCells p), .pointer (some ⟨w.heap.size, 0, none⟩), .bool false, .pointer (some ⟨w.heap.size, 78, none⟩), .slice p.aa p.an p.ac, .int .i64 (p.an : Int), .bool true, .bool true, .pointer (some ⟨w.heap.size, 77, none⟩), .slice p.ba p.bn p.bc, undef, undef, undef, undef, undef, undef, undef, undef, undef, undef, undef, undef, undef, undef, undef], defers := [] }) (by kernel_rfl) ?_
      refine want_val (w' := x0) (by kernel_rfl) (.int .i64 (p.bn : Int)) (by simp [go_sem]) ?_
      refine wpList_frame (a' := { tmps := #[.agg (prCells p), .pointer (some ⟨w.heap.size, 0, none⟩), .bool false, .pointer (some ⟨w.heap.size, 78, none⟩), .slice p.aa p.an p.ac, .int .i64 (p.an : Int), .bool true, .bool true, .pointer (some ⟨w.heap.size, 77, none⟩), .slice p.ba p.bn p.bc, .int .i64 (p.bn : Int), undef, undef, undef, undef, undef, undef, undef, undef, undef, undef, undef, undef, undef, undef], defers := [] }) (by kernel_rfl) ?_
      refine want_val (w' := x0) (by kernel_rfl) (.bool false) (by rw [show false = ((p.bn : Int) == 0) from h2.out]; kernel_rfl) ?_
      refine wpList_frame (a' := { tmps := #[.agg (prCells p), .pointer (some ⟨w.heap.size, 0, none⟩), .bool false, .pointer (some ⟨w.heap.size, 78, none⟩), .slice p.aa p.an p.ac, .int .i64 (p.an : Int), .bool true, .bool true, .pointer (some ⟨w.heap.size, 77, none⟩), .slice p.ba p.bn p.bc, .int .i64 (p.bn : Int), .bool false, undef, undef, undef, undef, undef, undef, undef, undef, undef, undef, undef, undef, undef], defers := [] }) (by kernel_rfl) ?_
      refine step_val (w' := x0) rfl (.bool false) (by kernel_rfl) ?_
      refine wpList_frame (a' := { tmps := #[.agg (prCells p), .pointer (some ⟨w.heap.size, 0, none⟩), .bool false, .pointer (some ⟨w.heap.size, 78, none⟩), .slice p.aa p.an p.ac, .int .i64 (p.an : Int), .bool true, .bool true, .pointer (some ⟨w.heap.size, 77, none⟩), .slice p.ba p.bn p.bc, .int .i64 (p.bn : Int), .bool false, .bool false, undef, undef, undef, undef, undef, undef, undef, undef, undef, undef, undef, undef], defers := [] }) (by kernel_rfl) ?_
      refine move_step rfl _ rfl ?_
      refine wpList_frame (a' := { tmps := #[.agg (prCells p), .pointer (some ⟨w.heap.size, 0, none⟩), .bool false, .pointer (some ⟨w.heap.size, 78, none⟩), .slice p.aa p.an p.ac, .int .i64 (p.an : Int), .bool true, .bool true, .pointer (some ⟨w.heap.size, 77, none⟩), .slice p.ba p.bn p.bc, .int .i64 (p.bn : Int), .bool false, .bool false, .bool false, undef, undef, undef, undef, undef, undef, undef, undef, undef, undef, undef], defers := [] }) (by kernel_rfl) ?_
      refine want_skip (by kernel_rfl) ?_
      refine wpList_frame (a' := { tmps := #[.agg (prCells p), .pointer (some ⟨w.heap.size, 0, none⟩), .bool false, .pointer (some ⟨w.heap.size, 78, none⟩), .slice p.aa p.an p.ac, .int .i64 (p.an : Int), .bool true, .bool true, .pointer (some ⟨w.heap.size, 77, none⟩), .slice p.ba p.bn p.bc, .int .i64 (p.bn : Int), .bool false, .bool false, .bool false, undef, undef, undef, undef, undef, undef, undef, undef, undef, undef, undef], defers := [] }) (by kernel_rfl) ?_
      refine want_skip (by kernel_rfl) ?_
      refine wpList_frame (a' := { tmps := #[.agg (prCells p), .pointer (some ⟨w.heap.size, 0, none⟩), .bool false, .pointer (some ⟨w.heap.size, 78, none⟩), .slice p.aa p.an p.ac, .int .i64 (p.an : Int), .bool true, .bool true, .pointer (some ⟨w.heap.size, 77, none⟩), .slice p.ba p.bn p.bc, .int .i64 (p.bn : Int), .bool false, .bool false, .bool false, undef, undef, undef, undef, undef, undef, undef, undef, undef, undef, undef], defers := [] }) (by kernel_rfl) ?_
      refine want_skip (by kernel_rfl) ?_
      refine wpList_frame (a' := { tmps := #[.agg (prCells p), .pointer (some ⟨w.heap.size, 0, none⟩), .bool false, .pointer (some ⟨w.heap.size, 78, none⟩), .slice p.aa p.an p.ac, .int .i64 (p.an : Int), .bool true, .bool true, .pointer (some ⟨w.heap.size, 77, none⟩), .slice p.ba p.bn p.bc, .int .i64 (p.bn : Int), .bool false, .bool false, .bool false, undef, undef, undef, undef, undef, undef, undef, undef, undef, undef, undef], defers := [] }) (by kernel_rfl) ?_
      refine want_skip (by kernel_rfl) ?_
      refine wpList_frame (a' := { tmps := #[.agg (prCells p), .pointer (some ⟨w.heap.size, 0, none⟩), .bool false, .pointer (some ⟨w.heap.size, 78, none⟩), .slice p.aa p.an p.ac, .int .i64 (p.an : Int), .bool true, .bool true, .pointer (some ⟨w.heap.size, 77, none⟩), .slice p.ba p.bn p.bc, .int .i64 (p.bn : Int), .bool false, .bool false, .bool false, undef, undef, undef, undef, undef, undef, undef, undef, undef, undef, undef], defers := [] }) (by kernel_rfl) ?_
      refine step_val (w' := x0) rfl (.bool false) (by kernel_rfl) ?_
      refine wpList_frame (a' := { tmps := #[.agg (prCells p), .pointer (some ⟨w.heap.size, 0, none⟩), .bool false, .pointer (some ⟨w.heap.size, 78, none⟩), .slice p.aa p.an p.ac, .int .i64 (p.an : Int), .bool true, .bool true, .pointer (some ⟨w.heap.size, 77, none⟩), .slice p.ba p.bn p.bc, .int .i64 (p.bn : Int), .bool false, .bool false, .bool false, undef, undef, undef, undef, .bool false, undef, undef, undef, undef, undef, undef], defers := [] }) (by kernel_rfl) ?_
      refine move_step rfl _ rfl ?_
      refine wpList_frame (a' := { tmps := #[.agg (prCells p), .pointer (some ⟨w.heap.size, 0, none⟩), .bool false, .pointer (some ⟨w.heap.size, 78, none⟩), .slice p.aa p.an p.ac, .int .i64 (p.an : Int), .bool true, .bool true, .pointer (some ⟨w.heap.size, 77, none⟩), .slice p.ba p.bn p.bc, .int .i64 (p.bn : Int), .bool false, .bool false, .bool false, undef, undef, undef, undef, .bool false, .bool false, undef, undef, undef, undef, undef], defers := [] }) (by kernel_rfl) ?_
      refine want_skip (by kernel_rfl) ?_
      refine wpList_frame (a' := { tmps := #[.agg (prCells p), .pointer (some ⟨w.heap.size, 0, none⟩), .bool false, .pointer (some ⟨w.heap.size, 78, none⟩), .slice p.aa p.an p.ac, .int .i64 (p.an : Int), .bool true, .bool true, .pointer (some ⟨w.heap.size, 77, none⟩), .slice p.ba p.bn p.bc, .int .i64 (p.bn : Int), .bool false, .bool false, .bool false, undef, undef, undef, undef, .bool false, .bool false, undef, undef, undef, undef, undef], defers := [] }) (by kernel_rfl) ?_
      refine want_skip (by kernel_rfl) ?_
      refine wpList_frame (a' := { tmps := #[.agg (prCells p), .pointer (some ⟨w.heap.size, 0, none⟩), .bool false, .pointer (some ⟨w.heap.size, 78, none⟩), .slice p.aa p.an p.ac, .int .i64 (p.an : Int), .bool true, .bool true, .pointer (some ⟨w.heap.size, 77, none⟩), .slice p.ba p.bn p.bc, .int .i64 (p.bn : Int), .bool false, .bool false, .bool false, undef, undef, undef, undef, .bool false, .bool false, undef, undef, undef, undef, undef], defers := [] }) (by kernel_rfl) ?_
      refine want_skip (by kernel_rfl) ?_
      refine wpList_frame (a' := { tmps := #[.agg (prCells p), .pointer (some ⟨w.heap.size, 0, none⟩), .bool false, .pointer (some ⟨w.heap.size, 78, none⟩), .slice p.aa p.an p.ac, .int .i64 (p.an : Int), .bool true, .bool true, .pointer (some ⟨w.heap.size, 77, none⟩), .slice p.ba p.bn p.bc, .int .i64 (p.bn : Int), .bool false, .bool false, .bool false, undef, undef, undef, undef, .bool false, .bool false, undef, undef, undef, undef, undef], defers := [] }) (by kernel_rfl) ?_
      refine want_skip (by kernel_rfl) ?_
      refine wpList_frame (a' := { tmps := #[.agg (prCells p), .pointer (some ⟨w.heap.size, 0, none⟩), .bool false, .pointer (some ⟨w.heap.size, 78, none⟩), .slice p.aa p.an p.ac, .int .i64 (p.an : Int), .bool true, .bool true, .pointer (some ⟨w.heap.size, 77, none⟩), .slice p.ba p.bn p.bc, .int .i64 (p.bn : Int), .bool false, .bool false, .bool false, undef, undef, undef, undef, .bool false, .bool false, undef, undef, undef, undef, undef], defers := [] }) (by kernel_rfl) ?_
      refine step_val (w' := x0) rfl (.bool false) (by kernel_rfl) ?_
      refine wpList_frame (a' := { tmps := #[.agg (prCells p), .pointer (some ⟨w.heap.size, 0, none⟩), .bool false, .pointer (some ⟨w.heap.size, 78, none⟩), .slice p.aa p.an p.ac, .int .i64 (p.an : Int), .bool true, .bool true, .pointer (some ⟨w.heap.size, 77, none⟩), .slice p.ba p.bn p.bc, .int .i64 (p.bn : Int), .bool false, .bool false, .bool false, undef, undef, undef, undef, .bool false, .bool false, undef, undef, undef, undef, .bool false], defers := [] }) (by kernel_rfl) ?_
      refine step_val (w' := x0) rfl (.bool false) (by kernel_rfl) ?_
      refine wpList_frame (a' := { tmps := #[.agg (prCells p), .pointer (some ⟨w.heap.size, 0, none⟩), .bool false, .pointer (some ⟨w.heap.size, 78, none⟩), .slice p.aa p.an p.ac, .int .i64 (p.an : Int), .bool true, .bool true, .pointer (some ⟨w.heap.size, 77, none⟩), .slice p.ba p.bn p.bc, .int .i64 (p.bn : Int), .bool false, .bool false, .bool false, undef, undef, undef, undef, .bool false, .bool false, undef, undef, undef, undef, .bool false], defers := [] }) (by kernel_rfl) ?_
      go_wp2_with (fail)
      go_ret
      exact ⟨by rw [show v = false from hv.out.trans (by unfold overB; rw [decide_eq_true (show p.an = 0 by have := h1.out; simpa using this.symm), decide_eq_false (show ¬ p.bn = 0 by have := h2.out; simpa using this.symm)]; rfl)]; rfl, G⟩
    case true =>
      cases b3
      case true =>
        refine wp_region_lit ?_
        refine step_val (w' := x0) rfl (.pointer (some ⟨w.heap.size, 78, none⟩)) (by kernel_rfl) ?_
        refine wpList_frame (a' := { tmps := #[.agg (prCells p), .pointer (some ⟨w.heap.size, 0, none⟩), .bool false, .pointer (some ⟨w.heap.size, 78, none⟩), undef, undef, undef, undef, undef, undef, undef, undef, undef, undef, undef, undef, undef, undef, undef, undef, undef, undef, undef, undef, undef], defers := [] }) (by kernel_rfl) ?_
        refine load_cell rfl _ _ rfl _ rfl (.slice p.aa p.an p.ac) (show x0.cell? ⟨w.heap.size, 78, none⟩ = some (.slice p.aa p.an p.ac) from (A.cell 78).trans (pr_tl _ 4 _ rfl)) (by kernel_rfl) ?_
        refine wpList_frame (a' := { tmps := #[.agg (prCells p), .pointer (some ⟨w.heap.size, 0, none⟩), .bool false, .pointer (some ⟨w.heap.size, 78, none⟩), .slice p.aa p.an p.ac, undef, undef, undef, undef, undef, undef, undef, undef, undef, undef, undef, undef, undef, undef, undef, undef, undef, undef, undef, undef], defers := [] }) (by kernel_rfl) ?_
        refine step_val (w' := x0) rfl (.int .i64 (p.an : Int)) (by simp [go_sem]) ?_
        refine wpList_frame (a' := { tmps := #[.agg (prCells p), .pointer (some ⟨w.heap.size, 0, none⟩), .bool false, .pointer (some ⟨w.heap.size, 78, none⟩), .slice p.aa p.an p.ac, .int .i64 (p.an : Int), undef, undef, undef, undef, undef, undef, undef, undef, undef, undef, undef, undef, undef, undef, undef, undef, undef, undef, undef], defers := [] }) (by kernel_rfl) ?_
        refine step_val (w' := x0) rfl (.bool true) (by rw [show true = ((p.an : Int) == 0) from h1.out]; kernel_rfl) ?_
        refine wpList_frame (a' := { tmps := #[.agg (prCells p), .pointer (some ⟨w.heap.size, 0, none⟩), .bool false, .pointer (some ⟨w.heap.size, 78, none⟩), .slice p.aa p.an p.ac, .int .i64 (p.an : Int), .bool true, undef, undef, undef, undef, undef, undef, undef, undef, undef, undef, undef, undef, undef, undef, undef, undef, undef, undef], defers := [] }) (by kernel_rfl) ?_
        refine move_step rfl _ rfl ?_
        refine wpList_frame (a' := { tmps := #[.agg (prCells p), .pointer (some ⟨w.heap.size, 0, none⟩), .bool false, .pointer (some ⟨w.heap.size, 78, none⟩), .slice p.aa p.an p.ac, .int .i64 (p.an : Int), .bool true, .bool true, undef, undef, undef, undef, undef, undef, undef, undef, undef, undef, undef, undef, undef, undef, undef, undef, undef], defers := [] }) (by kernel_rfl) ?_
        refine want_val (w' := x0) (by kernel_rfl) (.pointer (some ⟨w.heap.size, 77, none⟩)) (by kernel_rfl) ?_
        refine wpList_frame (a' := { tmps := #[.agg (prCells p), .pointer (some ⟨w.heap.size, 0, none⟩), .bool false, .pointer (some ⟨w.heap.size, 78, none⟩), .slice p.aa p.an p.ac, .int .i64 (p.an : Int), .bool true, .bool true, .pointer (some ⟨w.heap.size, 77, none⟩), undef, undef, undef, undef, undef, undef, undef, undef, undef, undef, undef, undef, undef, undef, undef, undef], defers := [] }) (by kernel_rfl) ?_
        refine want_cellv (by kernel_rfl) _ _ rfl _ rfl (.slice p.ba p.bn p.bc) (show x0.cell? ⟨w.heap.size, 77, none⟩ = some (.slice p.ba p.bn p.bc) from (A.cell 77).trans (pr_tl _ 3 _ rfl)) (by kernel_rfl) ?_
        refine wpList_frame (a' := { tmps := #[.agg (prCells p), .pointer (some ⟨w.heap.size, 0, none⟩), .bool false, .pointer (some ⟨w.heap.size, 78, none⟩), .slice p.aa p.an p.ac, .int .i64 (p.an : Int), .bool true, .bool true, .pointer (some ⟨w.heap.size, 77, none⟩), .slice p.ba p.bn p.bc, undef, undef, undef, undef, undef, undef, undef, undef, undef, undef, undef, undef, undef, undef, undef], defers := [] }) (by kernel_rfl) ?_
        refine want_val (w' := x0) (by kernel_rfl) (.int .i64 (p.bn : Int)) (by simp [go_sem]) ?_
        refine wpList_frame (a' := { tmps := #[.agg (prCells p), .pointer (some ⟨w.heap.size, 0, none⟩), .bool false, .pointer (some ⟨w.heap.size, 78, none⟩), .slice p.aa p.an p.ac, .int .i64 (p.an : Int), .bool true, .bool true, .pointer (some ⟨w.heap.size, 77, none⟩), .slice p.ba p.bn p.bc, .int .i64 (p.bn : Int), undef, undef, undef, undef, undef, undef, undef, undef, undef, undef, undef, undef, undef, undef], defers := [] }) (by kernel_rfl) ?_
        refine want_val (w' := x0) (by kernel_rfl) (.bool true) (by rw [show true = ((p.bn : Int) == 0) from h2.out]; kernel_rfl) ?_
        refine wpList_frame (a' := { tmps := #[.agg (prCells p), .pointer (some ⟨w.heap.size, 0, none⟩), .bool false, .pointer (some ⟨w.heap.size, 78, none⟩), .slice p.aa p.an p.ac, .int .i64 (p.an : Int), .bool true, .bool true, .pointer (some ⟨w.heap.size, 77, none⟩), .slice p.ba p.bn p.bc, .int .i64 (p.bn : Int), .bool true, undef, undef, undef, undef, undef, undef, undef, undef, undef, undef, undef, undef, undef], defers := [] }) (by kernel_rfl) ?_
        refine step_val (w' := x0) rfl (.bool true) (by kernel_rfl) ?_
        refine wpList_frame (a' := { tmps := #[.agg (prCells p), .pointer (some ⟨w.heap.size, 0, none⟩), .bool false, .pointer (some ⟨w.heap.size, 78, none⟩), .slice p.aa p.an p.ac, .int .i64 (p.an : Int), .bool true, .bool true, .pointer (some ⟨w.heap.size, 77, none⟩), .slice p.ba p.bn p.bc, .int .i64 (p.bn : Int), .bool true, .bool true, undef, undef, undef, undef, undef, undef, undef, undef, undef, undef, undef, undef], defers := [] }) (by kernel_rfl) ?_
        refine move_step rfl _ rfl ?_
        refine wpList_frame (a' := { tmps := #[.agg (prCells p), .pointer (some ⟨w.heap.size, 0, none⟩), .bool false, .pointer (some ⟨w.heap.size, 78, none⟩), .slice p.aa p.an p.ac, .int .i64 (p.an : Int), .bool true, .bool true, .pointer (some ⟨w.heap.size, 77, none⟩), .slice p.ba p.bn p.bc, .int .i64 (p.bn : Int), .bool true, .bool true, .bool true, undef, undef, undef, undef, undef, undef, undef, undef, undef, undef, undef], defers := [] }) (by kernel_rfl) ?_
        refine want_val (w' := x0) (by kernel_rfl) (.pointer (some ⟨w.heap.size, 0, none⟩)) (by kernel_rfl) ?_
        refine wpList_frame (a' := { tmps := #[.agg (prCells p), .pointer (some ⟨w.heap.size, 0, none⟩), .bool false, .pointer (some ⟨w.heap.size, 78, none⟩), .slice p.aa p.an p.ac, .int .i64 (p.an : Int), .bool true, .bool true, .pointer (some ⟨w.heap.size, 77, none⟩), .slice p.ba p.bn p.bc, .int .i64 (p.bn : Int), .bool true, .bool true, .bool true, .pointer (some ⟨w.heap.size, 0, none⟩), undef, undef, undef, undef, undef, undef, undef, undef, undef, undef], defers := [] }) (by kernel_rfl) ?_
        refine want_pa cn_big A (by kernel_rfl) _ rfl rfl ?_
        refine wpList_frame (a' := { tmps := #[.agg (prCells p), .pointer (some ⟨w.heap.size, 0, none⟩), .bool false, .pointer (some ⟨w.heap.size, 78, none⟩), .slice p.aa p.an p.ac, .int .i64 (p.an : Int), .bool true, .bool true, .pointer (some ⟨w.heap.size, 77, none⟩), .slice p.ba p.bn p.bc, .int .i64 (p.bn : Int), .bool true, .bool true, .bool true, .pointer (some ⟨w.heap.size, 0, none⟩), .agg (cnCells p.a), undef, undef, undef, undef, undef, undef, undef, undef, undef], defers := [] }) (by kernel_rfl) ?_
        refine want_call (by kernel_rfl) 27 #[.agg (cnCells p.a)] (by kernel_rfl) (hwA _) ?_
        rintro _ qw1 ⟨rfl, qg2⟩
        refine ⟨_, rfl, ?_⟩
        replace A := A.since qg2
        replace G := G.trans qg2
        have qg2_s := qg2.size
        refine wpList_frame (a' := { tmps := #[.agg (prCells p), .pointer (some ⟨w.heap.size, 0, none⟩), .bool false, .pointer (some ⟨w.heap.size, 78, none⟩), .slice p.aa p.an p.ac, .int .i64 (p.an : Int), .bool true, .bool true, .pointer (some ⟨w.heap.size, 77, none⟩), .slice p.ba p.bn p.bc, .int .i64 (p.bn : Int), .bool true, .bool true, .bool true, .pointer (some ⟨w.heap.size, 0, none⟩), .agg (cnCells p.a), .bool true, undef, undef, undef, undef, undef, undef, undef, undef], defers := [] }) (by kernel_rfl) ?_
        refine want_val (w' := qw1) (by kernel_rfl) (.bool false) (by kernel_rfl) ?_
        refine wpList_frame (a' := { tmps := #[.agg (prCells p), .pointer (some ⟨w.heap.size, 0, none⟩), .bool false, .pointer (some ⟨w.heap.size, 78, none⟩), .slice p.aa p.an p.ac, .int .i64 (p.an : Int), .bool true, .bool true, .pointer (some ⟨w.heap.size, 77, none⟩), .slice p.ba p.bn p.bc, .int .i64 (p.bn : Int), .bool true, .bool true, .bool true, .pointer (some ⟨w.heap.size, 0, none⟩), .agg (cnCells p.a), .bool true, .bool false, undef, undef, undef, undef, undef, undef, undef], defers := [] }) (by kernel_rfl) ?_
        refine step_val (w' := qw1) rfl (.bool false) (by kernel_rfl) ?_
        refine wpList_frame (a' := { tmps := #[.agg (prCells p), .pointer (some ⟨w.heap.size, 0, none⟩), .bool false, .pointer (some ⟨w.heap.size, 78, none⟩), .slice p.aa p.an p.ac, .int .i64 (p.an : Int), .bool true, .bool true, .pointer (some ⟨w.heap.size, 77, none⟩), .slice p.ba p.bn p.bc, .int .i64 (p.bn : Int), .bool true, .bool true, .bool true, .pointer (some ⟨w.heap.size, 0, none⟩), .agg (cnCells p.a), .bool true, .bool false, .bool false, undef, undef, undef, undef, undef, undef], defers := [] }) (by kernel_rfl) ?_
        refine move_step rfl _ rfl ?_
        refine wpList_frame (a' := { tmps := #[.agg (prCells p), .pointer (some ⟨w.heap.size, 0, none⟩), .bool false, .pointer (some ⟨w.heap.size, 78, none⟩), .slice p.aa p.an p.ac, .int .i64 (p.an : Int), .bool true, .bool true, .pointer (some ⟨w.heap.size, 77, none⟩), .slice p.ba p.bn p.bc, .int .i64 (p.bn : Int), .bool true, .bool true, .bool true, .pointer (some ⟨w.heap.size, 0, none⟩), .agg (cnCells p.a), .bool true, .bool false, .bool false, .bool false, undef, undef, undef, undef, undef], defers := [] }) (by kernel_rfl) ?_
        refine want_skip (by kernel_rfl) ?_
        refine wpList_frame (a' := { tmps := #[.agg (prCells p), .pointer (some ⟨w.heap.size, 0, none⟩), .bool false, .pointer (some ⟨w.heap.size, 78, none⟩), .slice p.aa p.an p.ac, .int .i64 (p.an : Int), .bool true, .bool true, .pointer (some ⟨w.heap.size, 77, none⟩), .slice p.ba p.bn p.bc, .int .i64 (p.bn : Int), .bool true, .bool true, .bool true, .pointer (some ⟨w.heap.size, 0, none⟩), .agg (cnCells p.a), .bool true, .bool false, .bool false, .bool false, undef, undef, undef, undef, undef], defers := [] }) (by kernel_rfl) ?_
        refine want_skip (by kernel_rfl) ?_
        refine wpList_frame (a' := { tmps := #[.agg (prCells p), .pointer (some ⟨w.heap.size, 0, none⟩), .bool false, .pointer (some ⟨w.heap.size, 78, none⟩), .slice p.aa p.an p.ac, .int .i64 (p.an : Int), .bool true, .bool true, .pointer (some ⟨w.heap.size, 77, none⟩), .slice p.ba p.bn p.bc, .int .i64 (p.bn : Int), .bool true, .bool true, .bool true, .pointer (some ⟨w.heap.size, 0, none⟩), .agg (cnCells p.a), .bool true, .bool false, .bool false, .bool false, undef, undef, undef, undef, undef], defers := [] }) (by kernel_rfl) ?_
        refine want_skip (by kernel_rfl) ?_
        refine wpList_frame (a' := { tmps := #[.agg (prCells p), .pointer (some ⟨w.heap.size, 0, none⟩), .bool false, .pointer (some ⟨w.heap.size, 78, none⟩), .slice p.aa p.an p.ac, .int .i64 (p.an : Int), .bool true, .bool true, .pointer (some ⟨w.heap.size, 77, none⟩), .slice p.ba p.bn p.bc, .int .i64 (p.bn : Int), .bool true, .bool true, .bool true, .pointer (some ⟨w.heap.size, 0, none⟩), .agg (cnCells p.a), .bool true, .bool false, .bool false, .bool false, undef, undef, undef, undef, undef], defers := [] }) (by kernel_rfl) ?_
        refine want_skip (by kernel_rfl) ?_
        refine wpList_frame (a' := { tmps := #[.agg (prCells p), .pointer (some ⟨w.heap.size, 0, none⟩), .bool false, .pointer (some ⟨w.heap.size, 78, none⟩), .slice p.aa p.an p.ac, .int .i64 (p.an : Int), .bool true, .bool true, .pointer (some ⟨w.heap.size, 77, none⟩), .slice p.ba p.bn p.bc, .int .i64 (p.bn : Int), .bool true, .bool true, .bool true, .pointer (some ⟨w.heap.size, 0, none⟩), .agg (cnCells p.a), .bool true, .bool false, .bool false, .bool false, undef, undef, undef, undef, undef], defers := [] }) (by kernel_rfl) ?_
        refine step_val (w' := qw1) rfl (.bool false) (by kernel_rfl) ?_
        refine wpList_frame (a' := { tmps := #[.agg (prCells p), .pointer (some ⟨w.heap.size, 0, none⟩), .bool false, .pointer (some ⟨w.heap.size, 78, none⟩), .slice p.aa p.an p.ac, .int .i64 (p.an : Int), .bool true, .bool true, .pointer (some ⟨w.heap.size, 77, none⟩), .slice p.ba p.bn p.bc, .int .i64 (p.bn : Int), .bool true, .bool true, .bool true, .pointer (some ⟨w.heap.size, 0, none⟩), .agg (cnCells p.a), .bool true, .bool false, .bool false, .bool false, undef, undef, undef, undef, .bool false], defers := [] }) (by kernel_rfl) ?_
        refine step_val (w' := qw1) rfl (.bool false) (by kernel_rfl) ?_
        refine wpList_frame (a' := { tmps := #[.agg (prCells p), .pointer (some ⟨w.heap.size, 0, none⟩), .bool false, .pointer (some ⟨w.heap.size, 78, none⟩), .slice p.aa p.an p.ac, .int .i64 (p.an : Int), .bool true, .bool true, .pointer (some ⟨w.heap.size, 77, none⟩), .slice p.ba p.bn p.bc, .int .i64 (p.bn : Int), .bool true, .bool true, .bool true, .pointer (some ⟨w.heap.size, 0, none⟩), .agg (cnCells p.a), .bool true, .bool false, .bool false, .bool false, undef, undef, undef, undef, .bool false], defers := [] }) (by kernel_rfl) ?_
        go_wp2_with (fail)
        go_ret
        exact ⟨by rw [show v = false from hv.out.trans (by unfold overB; rw [decide_eq_true (show p.an = 0 by have := h1.out; simpa using this.symm), decide_eq_true (show p.bn = 0 by have := h2.out; simpa using this.symm), ← h3.out]; rfl)]; rfl, G⟩
      case false =>
        cases b4
        case true =>
          refine wp_region_lit ?_
          refine step_val (w' := x0) rfl (.pointer (some ⟨w.heap.size, 78, none⟩)) (by kernel_rfl) ?_
          refine wpList_frame (a' := { tmps := #[.agg (prCells p), .pointer (some ⟨w.heap.size, 0, none⟩), .bool false, .pointer (some ⟨w.heap.size, 78, none⟩), undef, undef, undef, undef, undef, undef, undef, undef, undef, undef, undef, undef, undef, undef, undef, undef, undef, undef, undef, undef, undef], defers := [] }) (by kernel_rfl) ?_
          refine load_cell rfl _ _ rfl _ rfl (.slice p.aa p.an p.ac) (show x0.cell? ⟨w.heap.size, 78, none⟩ = some (.slice p.aa p.an p.ac) from (A.cell 78).trans (pr_tl _ 4 _ rfl)) (by kernel_rfl) ?_
          refine wpList_frame (a' := { tmps := #[.agg (prCells p), .pointer (some ⟨w.heap.size, 0, none⟩), .bool false, .pointer (some ⟨w.heap.size, 78, none⟩), .slice p.aa p.an p.ac, undef, undef, undef, undef, undef, undef, undef, undef, undef, undef, undef, undef, undef, undef, undef, undef, undef, undef, undef, undef], defers := [] }) (by kernel_rfl) ?_
          refine step_val (w' := x0) rfl (.int .i64 (p.an : Int)) (by simp [go_sem]) ?_
          refine wpList_frame (a' := { tmps := #[.agg (prCells p), .pointer (some ⟨w.heap.size, 0, none⟩), .bool false, .pointer (some ⟨w.heap.size, 78, none⟩), .slice p.aa p.an p.ac, .int .i64 (p.an : Int), undef, undef, undef, undef, undef, undef, undef, undef, undef, undef, undef, undef, undef, undef, undef, undef, undef, undef, undef], defers := [] }) (by kernel_rfl) ?_
          refine step_val (w' := x0) rfl (.bool true) (by rw [show true = ((p.an : Int) == 0) from h1.out]; kernel_rfl) ?_
          refine wpList_frame (a' := { tmps := #[.agg (prCells p), .pointer (some ⟨w.heap.size, 0, none⟩), .bool false, .pointer (some ⟨w.heap.size, 78, none⟩), .slice p.aa p.an p.ac, .int .i64 (p.an : Int), .bool true, undef, undef, undef, undef, undef, undef, undef, undef, undef, undef, undef, undef, undef, undef, undef, undef, undef, undef], defers := [] }) (by kernel_rfl) ?_
          refine move_step rfl _ rfl ?_
          refine wpList_frame (a' := { tmps := #[.agg (prCells p), .pointer (some ⟨w.heap.size, 0, none⟩), .bool false, .pointer (some ⟨w.heap.size, 78, none⟩), .slice p.aa p.an p.ac, .int .i64 (p.an : Int), .bool true, .bool true, undef, undef, undef, undef, undef, undef, undef, undef, undef, undef, undef, undef, undef, undef, undef, undef, undef], defers := [] }) (by kernel_rfl) ?_
          refine want_val (w' := x0) (by kernel_rfl) (.pointer (some ⟨w.heap.size, 77, none⟩)) (by kernel_rfl) ?_
          refine wpList_frame (a' := { tmps := #[.agg (prCells p), .pointer (some ⟨w.heap.size, 0, none⟩), .bool false, .pointer (some ⟨w.heap.size, 78, none⟩), .slice p.aa p.an p.ac, .int .i64 (p.an : Int), .bool true, .bool true, .pointer (some ⟨w.heap.size, 77, none⟩), undef, undef, undef, undef, undef, undef, undef, undef, undef, undef, undef, undef, undef, undef, undef, undef], defers := [] }) (by kernel_rfl) ?_
          refine want_cellv (by kernel_rfl) _ _ rfl _ rfl (.slice p.ba p.bn p.bc) (show x0.cell? ⟨w.heap.size, 77, none⟩ = some (.slice p.ba p.bn p.bc) from (A.cell 77).trans (pr_tl _ 3 _ rfl)) (by kernel_rfl) ?_
          refine wpList_frame (a' := { tmps := #[.agg (prCells p), .pointer (some ⟨w.heap.size, 0, none⟩), .bool false, .pointer (some ⟨w.heap.size, 78, none⟩), .slice p.aa p.an p.ac, .int .i64 (p.an : Int), .bool true, .bool true, .pointer (some ⟨w.heap.size, 77, none⟩), .slice p.ba p.bn p.bc, undef, undef, undef, undef, undef, undef, undef, undef, undef, undef, undef, undef, undef, undef, undef], defers := [] }) (by kernel_rfl) ?_
          refine want_val (w' := x0) (by kernel_rfl) (.int .i64 (p.bn : Int)) (by simp [go_sem]) ?_
          refine wpList_frame (a' := { tmps := #[.agg (prCells p), .pointer (some ⟨w.heap.size, 0, none⟩), .bool false, .pointer (some ⟨w.heap.size, 78, none⟩), .slice p.aa p.an p.ac, .int .i64 (p.an : Int), .bool true, .bool true, .pointer (some ⟨w.heap.size, 77, none⟩), .slice p.ba p.bn p.bc, .int .i64 (p.bn : Int), undef, undef, undef, undef, undef, undef, undef, undef, undef, undef, undef, undef, undef, undef], defers := [] }) (by kernel_rfl) ?_
          refine want_val (w' := x0) (by kernel_rfl) (.bool true) (by rw [show true = ((p.bn : Int) == 0) from h2.out]; kernel_rfl) ?_
          refine wpList_frame (a' := { tmps := #[.agg (prCells p), .pointer (some ⟨w.heap.size, 0, none⟩), .bool false, .pointer (some ⟨w.heap.size, 78, none⟩), .slice p.aa p.an p.ac, .int .i64 (p.an : Int), .bool true, .bool true, .pointer (some ⟨w.heap.size, 77, none⟩), .slice p.ba p.bn p.bc, .int .i64 (p.bn : Int), .bool true, undef, undef, undef, undef, undef, undef, undef, undef, undef, undef, undef, undef, undef], defers := [] }) (by kernel_rfl) ?_
          refine step_val (w' := x0) rfl (.bool true) (by kernel_rfl) ?_
          refine wpList_frame (a' := { tmps := #[.agg (prCells p), .pointer (some ⟨w.heap.size, 0, none⟩), .bool false, .pointer (some ⟨w.heap.size, 78, none⟩), .slice p.aa p.an p.ac, .int .i64 (p.an : Int), .bool true, .bool true, .pointer (some ⟨w.heap.size, 77, none⟩), .slice p.ba p.bn p.bc, .int .i64 (p.bn : Int), .bool true, .bool true, undef, undef, undef, undef, undef, undef, undef, undef, undef, undef, undef, undef], defers := [] }) (by kernel_rfl) ?_
          refine move_step rfl _ rfl ?_
          refine wpList_frame (a' := { tmps := #[.agg (prCells p), .pointer (some ⟨w.heap.size, 0, none⟩), .bool false, .pointer (some ⟨w.heap.size, 78, none⟩), .slice p.aa p.an p.ac, .int .i64 (p.an : Int), .bool true, .bool true, .pointer (some ⟨w.heap.size, 77, none⟩), .slice p.ba p.bn p.bc, .int .i64 (p.bn : Int), .bool true, .bool true, .bool true, undef, undef, undef, undef, undef, undef, undef, undef, undef, undef, undef], defers := [] }) (by kernel_rfl) ?_
          refine want_val (w' := x0) (by kernel_rfl) (.pointer (some ⟨w.heap.size, 0, none⟩)) (by kernel_rfl) ?_
          refine wpList_frame (a' := { tmps := #[.agg (prCells p), .pointer (some ⟨w.heap.size, 0, none⟩), .bool false, .pointer (some ⟨w.heap.size, 78, none⟩), .slice p.aa p.an p.ac, .int .i64 (p.an : Int), .bool true, .bool true, .pointer (some ⟨w.heap.size, 77, none⟩), .slice p.ba p.bn p.bc, .int .i64 (p.bn : Int), .bool true, .bool true, .bool true, .pointer (some ⟨w.heap.size, 0, none⟩), undef, undef, undef, undef, undef, undef, undef, undef, undef, undef], defers := [] }) (by kernel_rfl) ?_
          refine want_pa cn_big A (by kernel_rfl) _ rfl rfl ?_
          refine wpList_frame (a' := { tmps := #[.agg (prCells p), .pointer (some ⟨w.heap.size, 0, none⟩), .bool false, .pointer (some ⟨w.heap.size, 78, none⟩), .slice p.aa p.an p.ac, .int .i64 (p.an : Int), .bool true, .bool true, .pointer (some ⟨w.heap.size, 77, none⟩), .slice p.ba p.bn p.bc, .int .i64 (p.bn : Int), .bool true, .bool true, .bool true, .pointer (some ⟨w.heap.size, 0, none⟩), .agg (cnCells p.a), undef, undef, undef, undef, undef, undef, undef, undef, undef], defers := [] }) (by kernel_rfl) ?_
          refine want_call (by kernel_rfl) 27 #[.agg (cnCells p.a)] (by kernel_rfl) (hwA _) ?_
          rintro _ qw1 ⟨rfl, qg2⟩
          refine ⟨_, rfl, ?_⟩
          replace A := A.since qg2
          replace G := G.trans qg2
          have qg2_s := qg2.size
          refine wpList_frame (a' := { tmps := #[.agg (prCells p), .pointer (some ⟨w.heap.size, 0, none⟩), .bool false, .pointer (some ⟨w.heap.size, 78, none⟩), .slice p.aa p.an p.ac, .int .i64 (p.an : Int), .bool true, .bool true, .pointer (some ⟨w.heap.size, 77, none⟩), .slice p.ba p.bn p.bc, .int .i64 (p.bn : Int), .bool true, .bool true, .bool true, .pointer (some ⟨w.heap.size, 0, none⟩), .agg (cnCells p.a), .bool false, undef, undef, undef, undef, undef, undef, undef, undef], defers := [] }) (by kernel_rfl) ?_
          refine want_val (w' := qw1) (by kernel_rfl) (.bool true) (by kernel_rfl) ?_
          refine wpList_frame (a' := { tmps := #[.agg (prCells p), .pointer (some ⟨w.heap.size, 0, none⟩), .bool false, .pointer (some ⟨w.heap.size, 78, none⟩), .slice p.aa p.an p.ac, .int .i64 (p.an : Int), .bool true, .bool true, .pointer (some ⟨w.heap.size, 77, none⟩), .slice p.ba p.bn p.bc, .int .i64 (p.bn : Int), .bool true, .bool true, .bool true, .pointer (some ⟨w.heap.size, 0, none⟩), .agg (cnCells p.a), .bool false, .bool true, undef, undef, undef, undef, undef, undef, undef], defers := [] }) (by kernel_rfl) ?_
          refine step_val (w' := qw1) rfl (.bool true) (by kernel_rfl) ?_
          refine wpList_frame (a' := { tmps := #[.agg (prCells p), .pointer (some ⟨w.heap.size, 0, none⟩), .bool false, .pointer (some ⟨w.heap.size, 78, none⟩), .slice p.aa p.an p.ac, .int .i64 (p.an : Int), .bool true, .bool true, .pointer (some ⟨w.heap.size, 77, none⟩), .slice p.ba p.bn p.bc, .int .i64 (p.bn : Int), .bool true, .bool true, .bool true, .pointer (some ⟨w.heap.size, 0, none⟩), .agg (cnCells p.a), .bool false, .bool true, .bool true, undef, undef, undef, undef, undef, undef], defers := [] }) (by kernel_rfl) ?_
          refine move_step rfl _ rfl ?_
          refine wpList_frame (a' := { tmps := #[.agg (prCells p), .pointer (some ⟨w.heap.size, 0, none⟩), .bool false, .pointer (some ⟨w.heap.size, 78, none⟩), .slice p.aa p.an p.ac, .int .i64 (p.an : Int), .bool true, .bool true, .pointer (some ⟨w.heap.size, 77, none⟩), .slice p.ba p.bn p.bc, .int .i64 (p.bn : Int), .bool true, .bool true, .bool true, .pointer (some ⟨w.heap.size, 0, none⟩), .agg (cnCells p.a), .bool false, .bool true, .bool true, .bool true, undef, undef, undef, undef, undef], defers := [] }) (by kernel_rfl) ?_
          refine want_val (w' := qw1) (by kernel_rfl) (.pointer (some ⟨w.heap.size, 37, none⟩)) (by kernel_rfl) ?_
          refine wpList_frame (a' := { tmps := #[.agg (prCells p), .pointer (some ⟨w.heap.size, 0, none⟩), .bool false, .pointer (some ⟨w.heap.size, 78, none⟩), .slice p.aa p.an p.ac, .int .i64 (p.an : Int), .bool true, .bool true, .pointer (some ⟨w.heap.size, 77, none⟩), .slice p.ba p.bn p.bc, .int .i64 (p.bn : Int), .bool true, .bool true, .bool true, .pointer (some ⟨w.heap.size, 0, none⟩), .agg (cnCells p.a), .bool false, .bool true, .bool true, .bool true, .pointer (some ⟨w.heap.size, 37, none⟩), undef, undef, undef, undef], defers := [] }) (by kernel_rfl) ?_
          refine want_pb cn_big A (by kernel_rfl) _ rfl rfl ?_
          refine wpList_frame (a' := { tmps := #[.agg (prCells p), .pointer (some ⟨w.heap.size, 0, none⟩), .bool false, .pointer (some ⟨w.heap.size, 78, none⟩), .slice p.aa p.an p.ac, .int .i64 (p.an : Int), .bool true, .bool true, .pointer (some ⟨w.heap.size, 77, none⟩), .slice p.ba p.bn p.bc, .int .i64 (p.bn : Int), .bool true, .bool true, .bool true, .pointer (some ⟨w.heap.size, 0, none⟩), .agg (cnCells p.a), .bool false, .bool true, .bool true, .bool true, .pointer (some ⟨w.heap.size, 37, none⟩), .agg (cnCells p.b), undef, undef, undef], defers := [] }) (by kernel_rfl) ?_
          refine want_call (by kernel_rfl) 27 #[.agg (cnCells p.b)] (by kernel_rfl) (hwB _) ?_
          rintro _ qw3 ⟨rfl, qg4⟩
          refine ⟨_, rfl, ?_⟩
          replace A := A.since qg4
          replace G := G.trans qg4
          have qg4_s := qg4.size
          refine wpList_frame (a' := { tmps := #[.agg (prCells p), .pointer (some ⟨w.heap.size, 0, none⟩), .bool false, .pointer (some ⟨w.heap.size, 78, none⟩), .slice p.aa p.an p.ac, .int .i64 (p.an : Int), .bool true, .bool true, .pointer (some ⟨w.heap.size, 77, none⟩), .slice p.ba p.bn p.bc, .int .i64 (p.bn : Int), .bool true, .bool true, .bool true, .pointer (some ⟨w.heap.size, 0, none⟩), .agg (cnCells p.a), .bool false, .bool true, .bool true, .bool true, .pointer (some ⟨w.heap.size, 37, none⟩), .agg (cnCells p.b), .bool true, undef, undef], defers := [] }) (by kernel_rfl) ?_
          refine want_val (w' := qw3) (by kernel_rfl) (.bool false) (by kernel_rfl) ?_
          refine wpList_frame (a' := { tmps := #[.agg (prCells p), .pointer (some ⟨w.heap.size, 0, none⟩), .bool false, .pointer (some ⟨w.heap.size, 78, none⟩), .slice p.aa p.an p.ac, .int .i64 (p.an : Int), .bool true, .bool true, .pointer (some ⟨w.heap.size, 77, none⟩), .slice p.ba p.bn p.bc, .int .i64 (p.bn : Int), .bool true, .bool true, .bool true, .pointer (some ⟨w.heap.size, 0, none⟩), .agg (cnCells p.a), .bool false, .bool true, .bool true, .bool true, .pointer (some ⟨w.heap.size, 37, none⟩), .agg (cnCells p.b), .bool true, .bool false, undef], defers := [] }) (by kernel_rfl) ?_
          refine step_val (w' := qw3) rfl (.bool false) (by kernel_rfl) ?_
          refine wpList_frame (a' := { tmps := #[.agg (prCells p), .pointer (some ⟨w.heap.size, 0, none⟩), .bool false, .pointer (some ⟨w.heap.size, 78, none⟩), .slice p.aa p.an p.ac, .int .i64 (p.an : Int), .bool true, .bool true, .pointer (some ⟨w.heap.size, 77, none⟩), .slice p.ba p.bn p.bc, .int .i64 (p.bn : Int), .bool true, .bool true, .bool true, .pointer (some ⟨w.heap.size, 0, none⟩), .agg (cnCells p.a), .bool false, .bool true, .bool true, .bool true, .pointer (some ⟨w.heap.size, 37, none⟩), .agg (cnCells p.b), .bool true, .bool false, .bool false], defers := [] }) (by kernel_rfl) ?_
          refine step_val (w' := qw3) rfl (.bool false) (by kernel_rfl) ?_
          refine wpList_frame (a' := { tmps := #[.agg (prCells p), .pointer (some ⟨w.heap.size, 0, none⟩), .bool false, .pointer (some ⟨w.heap.size, 78, none⟩), .slice p.aa p.an p.ac, .int .i64 (p.an : Int), .bool true, .bool true, .pointer (some ⟨w.heap.size, 77, none⟩), .slice p.ba p.bn p.bc, .int .i64 (p.bn : Int), .bool true, .bool true, .bool true, .pointer (some ⟨w.heap.size, 0, none⟩), .agg (cnCells p.a), .bool false, .bool true, .bool true, .bool true, .pointer (some ⟨w.heap.size, 37, none⟩), .agg (cnCells p.b), .bool true, .bool false, .bool false], defers := [] }) (by kernel_rfl) ?_
          go_wp2_with (fail)
          go_ret
          exact ⟨by rw [show v = false from hv.out.trans (by unfold overB; rw [decide_eq_true (show p.an = 0 by have := h1.out; simpa using this.symm), decide_eq_true (show p.bn = 0 by have := h2.out; simpa using this.symm), ← h3.out, ← h4.out]; rfl)]; rfl, G⟩
        case false =>
          refine wp_region_lit ?_
          refine step_val (w' := x0) rfl (.pointer (some ⟨w.heap.size, 78, none⟩)) (by kernel_rfl) ?_
          refine wpList_frame (a' := { tmps := #[.agg (prCells p), .pointer (some ⟨w.heap.size, 0, none⟩), .bool false, .pointer (some ⟨w.heap.size, 78, none⟩), undef, undef, undef, undef, undef, undef, undef, undef, undef, undef, undef, undef, undef, undef, undef, undef, undef, undef, undef, undef, undef], defers := [] }) (by kernel_rfl) ?_
          refine load_cell rfl _ _ rfl _ rfl (.slice p.aa p.an p.ac) (show x0.cell? ⟨w.heap.size, 78, none⟩ = some (.slice p.aa p.an p.ac) from (A.cell 78).trans (pr_tl _ 4 _ rfl)) (by kernel_rfl) ?_
          refine wpList_frame (a' := { tmps := #[.agg (prCells p), .pointer (some ⟨w.heap.size, 0, none⟩), .bool false, .pointer (some ⟨w.heap.size, 78, none⟩), .slice p.aa p.an p.ac, undef, undef, undef, undef, undef, undef, undef, undef, undef, undef, undef, undef, undef, undef, undef, undef, undef, undef, undef, undef], defers := [] }) (by kernel_rfl) ?_
          refine step_val (w' := x0) rfl (.int .i64 (p.an : Int)) (by simp [go_sem]) ?_
          refine wpList_frame (a' := { tmps := #[.agg (prCells p), .pointer (some ⟨w.heap.size, 0, none⟩), .bool false, .pointer (some ⟨w.heap.size, 78, none⟩), .slice p.aa p.an p.ac, .int .i64 (p.an : Int), undef, undef, undef, undef, undef, undef, undef, undef, undef, undef, undef, undef, undef, undef, undef, undef, undef, undef, undef], defers := [] }) (by kernel_rfl) ?_
          refine step_val (w' := x0) rfl (.bool true) (by rw [show true = ((p.an : Int) == 0) from h1.out]; kernel_rfl) ?_
          refine wpList_frame (a' := { tmps := #[.agg (prCells p), .pointer (some ⟨w.heap.size, 0, none⟩), .bool false, .pointer (some ⟨w.heap.size, 78, none⟩), .slice p.aa p.an p.ac, .int .i64 (p.an : Int), .bool true, undef, undef, undef, undef, undef, undef, undef, undef, undef, undef, undef, undef, undef, undef, undef, undef, undef, undef], defers := [] }) (by kernel_rfl) ?_
          refine move_step rfl _ rfl ?_
          refine wpList_frame (a' := { tmps := #[.agg (prCells p), .pointer (some ⟨w.heap.size, 0, none⟩), .bool false, .pointer (some ⟨w.heap.size, 78, none⟩), .slice p.aa p.an p.ac, .int .i64 (p.an : Int), .bool true, .bool true, undef, undef, undef, undef, undef, undef, undef, undef, undef, undef, undef, undef, undef, undef, undef, undef, undef], defers := [] }) (by kernel_rfl) ?_
          refine want_val (w' := x0) (by kernel_rfl) (.pointer (some ⟨w.heap.size, 77, none⟩)) (by kernel_rfl) ?_
          refine wpList_frame (a' := { tmps := #[.agg (prCells p), .pointer (some ⟨w.heap.size, 0, none⟩), .bool false, .pointer (some ⟨w.heap.size, 78, none⟩), .slice p.aa p.an p.ac, .int .i64 (p.an : Int), .bool true, .bool true, .pointer (some ⟨w.heap.size, 77, none⟩), undef, undef, undef, undef, undef, undef, undef, undef, undef, undef, undef, undef, undef, undef, undef, undef], defers := [] }) (by kernel_rfl) ?_
          refine want_cellv (by kernel_rfl) _ _ rfl _ rfl (.slice p.ba p.bn p.bc) (show x0.cell? ⟨w.heap.size, 77, none⟩ = some (.slice p.ba p.bn p.bc) from (A.cell 77).trans (pr_tl _ 3 _ rfl)) (by kernel_rfl) ?_
          refine wpList_frame (a' := { tmps := #[.agg (prCells p), .pointer (some ⟨w.heap.size, 0, none⟩), .bool false, .pointer (some ⟨w.heap.size, 78, none⟩), .slice p.aa p.an p.ac, .int .i64 (p.an : Int), .bool true, .bool true, .pointer (some ⟨w.heap.size, 77, none⟩), .slice p.ba p.bn p.bc, undef, undef, undef, undef, undef, undef, undef, undef, undef, undef, undef, undef, undef, undef, undef], defers := [] }) (by kernel_rfl) ?_
          refine want_val (w' := x0) (by kernel_rfl) (.int .i64 (p.bn : Int)) (by simp [go_sem]) ?_
          refine wpList_frame (a' := { tmps := #[.agg (prCells p), .pointer (some ⟨w.heap.size, 0, none⟩), .bool false, .pointer (some ⟨w.heap.size, 78, none⟩), .slice p.aa p.an p.ac, .int .i64 (p.an : Int), .bool true, .bool true, .pointer (some ⟨w.heap.size, 77, none⟩), .slice p.ba p.bn p.bc, .int .i64 (p.bn : Int), undef, undef, undef, undef, undef, undef, undef, undef, undef, undef, undef, undef, undef, undef], defers := [] }) (by kernel_rfl) ?_
          refine want_val (w' := x0) (by kernel_rfl) (.bool true) (by rw [show true = ((p.bn : Int) == 0) from h2.out]; kernel_rfl) ?_
          refine wpList_frame (a' := { tmps := #[.agg (prCells p), .pointer (some ⟨w.heap.size, 0, none⟩), .bool false, .pointer (some ⟨w.heap.size, 78, none⟩), .slice p.aa p.an p.ac, .int .i64 (p.an : Int), .bool true, .bool true, .pointer (some ⟨w.heap.size, 77, none⟩), .slice p.ba p.bn p.bc, .int .i64 (p.bn : Int), .bool true, undef, undef, undef, undef, undef, undef, undef, undef, undef, undef, undef, undef, undef], defers := [] }) (by kernel_rfl) ?_
          refine step_val (w' := x0) rfl (.bool true) (by kernel_rfl) ?_
          refine wpList_frame (a' := { tmps := #[.agg (prCells p), .pointer (some ⟨w.heap.size, 0, none⟩), .bool false, .pointer (some ⟨w.heap.size, 78, none⟩), .slice p.aa p.an p.ac, .int .i64 (p.an : Int), .bool true, .bool true, .pointer (some ⟨w.heap.size, 77, none⟩), .slice p.ba p.bn p.bc, .int .i64 (p.bn : Int), .bool true, .bool true, undef, undef, undef, undef, undef, undef, undef, undef, undef, undef, undef, undef], defers := [] }) (by kernel_rfl) ?_
          refine move_step rfl _ rfl ?_
          refine wpList_frame (a' := { tmps := #[.agg (prCells p), .pointer (some ⟨w.heap.size, 0, none⟩), .bool false, .pointer (some ⟨w.heap.size, 78, none⟩), .slice p.aa p.an p.ac, .int .i64 (p.an : Int), .bool true, .bool true, .pointer (some ⟨w.heap.size, 77, none⟩), .slice p.ba p.bn p.bc, .int .i64 (p.bn : Int), .bool true, .bool true, .bool true, undef, undef, undef, undef, undef, undef, undef, undef, undef, undef, undef], defers := [] }) (by kernel_rfl) ?_
          refine want_val (w' := x0) (by kernel_rfl) (.pointer (some ⟨w.heap.size, 0, none⟩)) (by kernel_rfl) ?_
          refine wpList_frame (a' := { tmps := #[.agg (prCells p), .pointer (some ⟨w.heap.size, 0, none⟩), .bool false, .pointer (some ⟨w.heap.size, 78, none⟩), .slice p.aa p.an p.ac, .int .i64 (p.an : Int), .bool true, .bool true, .pointer (some ⟨w.heap.size, 77, none⟩), .slice p.ba p.bn p.bc, .int .i64 (p.bn : Int), .bool true, .bool true, .bool true, .pointer (some ⟨w.heap.size, 0, none⟩), undef, undef, undef, undef, undef, undef, undef, undef, undef, undef], defers := [] }) (by kernel_rfl) ?_
          refine want_pa cn_big A (by kernel_rfl) _ rfl rfl ?_
          refine wpList_frame (a' := { tmps := #[.agg (prCells p), .pointer (some ⟨w.heap.size, 0, none⟩), .bool false, .pointer (some ⟨w.heap.size, 78, none⟩), .slice p.aa p.an p.ac, .int .i64 (p.an : Int), .bool true, .bool true, .pointer (some ⟨w.heap.size, 77, none⟩), .slice p.ba p.bn p.bc, .int .i64 (p.bn : Int), .bool true, .bool true, .bool true, .pointer (some ⟨w.heap.size, 0, none⟩), .agg (cnCells p.a), undef, undef, undef, undef, undef, undef, undef, undef, undef], defers := [] }) (by kernel_rfl) ?_
          refine want_call (by kernel_rfl) 27 #[.agg (cnCells p.a)] (by kernel_rfl) (hwA _) ?_
          rintro _ qw1 ⟨rfl, qg2⟩
          refine ⟨_, rfl, ?_⟩
          replace A := A.since qg2
          replace G := G.trans qg2
          have qg2_s := qg2.size
          refine wpList_frame (a' := { tmps := #[.agg (prCells p), .pointer (some ⟨w.heap.size, 0, none⟩), .bool false, .pointer (some ⟨w.heap.size, 78, none⟩), .slice p.aa p.an p.ac, .int .i64 (p.an : Int), .bool true, .bool true, .pointer (some ⟨w.heap.size, 77, none⟩), .slice p.ba p.bn p.bc, .int .i64 (p.bn : Int), .bool true, .bool true, .bool true, .pointer (some ⟨w.heap.size, 0, none⟩), .agg (cnCells p.a), .bool false, undef, undef, undef, undef, undef, undef, undef, undef], defers := [] }) (by kernel_rfl) ?_
          refine want_val (w' := qw1) (by kernel_rfl) (.bool true) (by kernel_rfl) ?_
          refine wpList_frame (a' := { tmps := #[.agg (prCells p), .pointer (some ⟨w.heap.size, 0, none⟩), .bool false, .pointer (some ⟨w.heap.size, 78, none⟩), .slice p.aa p.an p.ac, .int .i64 (p.an : Int), .bool true, .bool true, .pointer (some ⟨w.heap.size, 77, none⟩), .slice p.ba p.bn p.bc, .int .i64 (p.bn : Int), .bool true, .bool true, .bool true, .pointer (some ⟨w.heap.size, 0, none⟩), .agg (cnCells p.a), .bool false, .bool true, undef, undef, undef, undef, undef, undef, undef], defers := [] }) (by kernel_rfl) ?_
          refine step_val (w' := qw1) rfl (.bool true) (by kernel_rfl) ?_
          refine wpList_frame (a' := { tmps := #[.agg (prCells p), .pointer (some ⟨w.heap.size, 0, none⟩), .bool false, .pointer (some ⟨w.heap.size, 78, none⟩), .slice p.aa p.an p.ac, .int .i64 (p.an : Int), .bool true, .bool true, .pointer (some ⟨w.heap.size, 77, none⟩), .slice p.ba p.bn p.bc, .int .i64 (p.bn : Int), .bool true, .bool true, .bool true, .pointer (some ⟨w.heap.size, 0, none⟩), .agg (cnCells p.a), .bool false, .bool true, .bool true, undef, undef, undef, undef, undef, undef], defers := [] }) (by kernel_rfl) ?_
          refine move_step rfl _ rfl ?_
          refine wpList_frame (a' := { tmps := #[.agg (prCells p), .pointer (some ⟨w.heap.size, 0, none⟩), .bool false, .pointer (some ⟨w.heap.size, 78, none⟩), .slice p.aa p.an p.ac, .int .i64 (p.an : Int), .bool true, .bool true, .pointer (some ⟨w.heap.size, 77, none⟩), .slice p.ba p.bn p.bc, .int .i64 (p.bn : Int), .bool true, .bool true, .bool true, .pointer (some ⟨w.heap.size, 0, none⟩), .agg (cnCells p.a), .bool false, .bool true, .bool true, .bool true, undef, undef, undef, undef, undef], defers := [] }) (by kernel_rfl) ?_
          refine want_val (w' := qw1) (by kernel_rfl) (.pointer (some ⟨w.heap.size, 37, none⟩)) (by kernel_rfl) ?_
          refine wpList_frame (a' := { tmps := #[.agg (prCells p), .pointer (some ⟨w.heap.size, 0, none⟩), .bool false, .pointer (some ⟨w.heap.size, 78, none⟩), .slice p.aa p.an p.ac, .int .i64 (p.an : Int), .bool true, .bool true, .pointer (some ⟨w.heap.size, 77, none⟩), .slice p.ba p.bn p.bc, .int .i64 (p.bn : Int), .bool true, .bool true, .bool true, .pointer (some ⟨w.heap.size, 0, none⟩), .agg (cnCells p.a), .bool false, .bool true, .bool true, .bool true, .pointer (some ⟨w.heap.size, 37, none⟩), undef, undef, undef, undef], defers := [] }) (by kernel_rfl) ?_
          refine want_pb cn_big A (by kernel_rfl) _ rfl rfl ?_
          refine wpList_frame (a' := { tmps := #[.agg (prCells p), .pointer (some ⟨w.heap.size, 0, none⟩), .bool false, .pointer (some ⟨w.heap.size, 78, none⟩), .slice p.aa p.an p.ac, .int .i64 (p.an : Int), .bool true, .bool true, .pointer (some ⟨w.heap.size, 77, none⟩), .slice p.ba p.bn p.bc, .int .i64 (p.bn : Int), .bool true, .bool true, .bool true, .pointer (some ⟨w.heap.size, 0, none⟩), .agg (cnCells p.a), .bool false, .bool true, .bool true, .bool true, .pointer (some ⟨w.heap.size, 37, none⟩), .agg (cnCells p.b), undef, undef, undef], defers := [] }) (by kernel_rfl) ?_
          refine want_call (by kernel_rfl) 27 #[.agg (cnCells p.b)] (by kernel_rfl) (hwB _) ?_
          rintro _ qw3 ⟨rfl, qg4⟩
          refine ⟨_, rfl, ?_⟩
          replace A := A.since qg4
          replace G := G.trans qg4
          have qg4_s := qg4.size
          refine wpList_frame (a' := { tmps := #[.agg (prCells p), .pointer (some ⟨w.heap.size, 0, none⟩), .bool false, .pointer (some ⟨w.heap.size, 78, none⟩), .slice p.aa p.an p.ac, .int .i64 (p.an : Int), .bool true, .bool true, .pointer (some ⟨w.heap.size, 77, none⟩), .slice p.ba p.bn p.bc, .int .i64 (p.bn : Int), .bool true, .bool true, .bool true, .pointer (some ⟨w.heap.size, 0, none⟩), .agg (cnCells p.a), .bool false, .bool true, .bool true, .bool true, .pointer (some ⟨w.heap.size, 37, none⟩), .agg (cnCells p.b), .bool false, undef, undef], defers := [] }) (by kernel_rfl) ?_
          refine want_val (w' := qw3) (by kernel_rfl) (.bool true) (by kernel_rfl) ?_
          refine wpList_frame (a' := { tmps := #[.agg (prCells p), .pointer (some ⟨w.heap.size, 0, none⟩), .bool false, .pointer (some ⟨w.heap.size, 78, none⟩), .slice p.aa p.an p.ac, .int .i64 (p.an : Int), .bool true, .bool true, .pointer (some ⟨w.heap.size, 77, none⟩), .slice p.ba p.bn p.bc, .int .i64 (p.bn : Int), .bool true, .bool true, .bool true, .pointer (some ⟨w.heap.size, 0, none⟩), .agg (cnCells p.a), .bool false, .bool true, .bool true, .bool true, .pointer (some ⟨w.heap.size, 37, none⟩), .agg (cnCells p.b), .bool false, .bool true, undef], defers := [] }) (by kernel_rfl) ?_
          refine step_val (w' := qw3) rfl (.bool true) (by kernel_rfl) ?_
          refine wpList_frame (a' := { tmps := #[.agg (prCells p), .pointer (some ⟨w.heap.size, 0, none⟩), .bool false, .pointer (some ⟨w.heap.size, 78, none⟩), .slice p.aa p.an p.ac, .int .i64 (p.an : Int), .bool true, .bool true, .pointer (some ⟨w.heap.size, 77, none⟩), .slice p.ba p.bn p.bc, .int .i64 (p.bn : Int), .bool true, .bool true, .bool true, .pointer (some ⟨w.heap.size, 0, none⟩), .agg (cnCells p.a), .bool false, .bool true, .bool true, .bool true, .pointer (some ⟨w.heap.size, 37, none⟩), .agg (cnCells p.b), .bool false, .bool true, .bool true], defers := [] }) (by kernel_rfl) ?_
          refine step_val (w' := qw3) rfl (.bool true) (by kernel_rfl) ?_
          refine wpList_frame (a' := { tmps := #[.agg (prCells p), .pointer (some ⟨w.heap.size, 0, none⟩), .bool true, .pointer (some ⟨w.heap.size, 78, none⟩), .slice p.aa p.an p.ac, .int .i64 (p.an : Int), .bool true, .bool true, .pointer (some ⟨w.heap.size, 77, none⟩), .slice p.ba p.bn p.bc, .int .i64 (p.bn : Int), .bool true, .bool true, .bool true, .pointer (some ⟨w.heap.size, 0, none⟩), .agg (cnCells p.a), .bool false, .bool true, .bool true, .bool true, .pointer (some ⟨w.heap.size, 37, none⟩), .agg (cnCells p.b), .bool false, .bool true, .bool true], defers := [] }) (by kernel_rfl) ?_
          go_wp2_with (fail)
          go_ret
          exact ⟨by rw [show v = true from hv.out.trans (by unfold overB; rw [decide_eq_true (show p.an = 0 by have := h1.out; simpa using this.symm), decide_eq_true (show p.bn = 0 by have := h2.out; simpa using this.symm), ← h3.out, ← h4.out]; rfl)]; rfl, G⟩
end Go.Proofs.Ytoadnhkbejnimaa
