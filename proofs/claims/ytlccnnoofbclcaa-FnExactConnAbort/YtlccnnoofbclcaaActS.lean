/-
  An act: made, segments gathered, an end that is over.
-/
import Derived.Test.YtlccnnoofbclcaaAct
import Derived.Test.YtlccnnoofbclcaaConnS1
import Derived.Deep.DeepCutAuto
namespace Go.Proofs.Ytlccnnoofbclcaa
open Go.ChangeShapes Go.WideShapes Go.ChangeAt Go.RowKit
set_option linter.unusedVariables false
set_option maxRecDepth 10000

set_option maxRecDepth 10000 in
theorem run_build1 (s : Sg) (w : World) : (Instr.buildSlice 54 1 #[(0, .agg (sgCells s))]).run Try.prog w = .ok (.slice (some ⟨w.heap.size, 0, none⟩) 1 1) (w.alloc (.cells (sgCells s) 79)) := by kernel_rfl

/-- A list of one segment is made. -/
theorem does_build1 {op : Oper} {a : Act} {w : World} {R : Value → World → Prop} (s : Sg) (x : Operand) (ho : op.op = .buildSlice 54 1 #[(0, x)]) (hx : a.eval x = .agg (sgCells s))
    (h : R (.slice (some ⟨w.heap.size, 0, none⟩) 1 1) (w.alloc (.cells (sgCells s) 79))) : does Try.prog op a w R := by
  have e := run_build1 s w
  have e2 : (Array.map (fun y : Nat × Operand => (y.fst, a.eval y.snd)) #[(0, x)]) = #[(0, .agg (sgCells s))] := by simp [hx]
  unfold does execOp
  simp only [ho, e2, Sem.run_bind, e, Result.andThen_ok, Sem.run_pure]
  exact h

set_option maxRecDepth 20000 in
set_option maxHeartbeats 8000000 in
theorem implSends (B g pg : Nat) (now : Int) (ps : List (Int × ByteArray)) (d : Cn) (gs n cap : Nat) (xs : List Sg) (s : Sg) (hb : Nat) (hn : n ≤ 200000) (w : World) (a : Acts B g pg now ps d gs n cap xs w) (Y : Held shG w B hb 1 1 [s]) (hne : g ≠ hb) :
    Calls Try.prog 81 #[.pointer (some ⟨g, 0, none⟩), .slice (some ⟨hb, 0, none⟩) 1 1] w fun e w' => e = .returned (.tuple #[]) ∧ ActsX B g pg now ps (d) (xs ++ [s]) w' ∧ Base B w w' := by
  obtain ⟨A, L, P, pa, lo, i, j, l⟩ := a
  have hA := A.lt
  have hL := L.lt
  have hLo := L.low'
  have hP := P.lt
  have hPo := P.low'
  have G : Base B w w := Base.refl (by omega)
  have hY := Y.lt
  go_enter Try.func81, Try.ntmps81
  refine wp_region_lit ?_
  refine move_step rfl _ rfl ?_
  refine move_step rfl _ rfl ?_
  refine wpList_frame (a' := { tmps := #[.pointer (some ⟨g, 0, none⟩), .slice (some ⟨hb, 0, none⟩) 1 1, undef, undef, .pointer (some ⟨g, 0, none⟩), .pointer (some ⟨g, 0, none⟩), undef, undef, undef, undef, undef, undef, undef], defers := [] }) (by kernel_rfl) ?_
  refine step_val (w' := w) rfl (.pointer (some ⟨g, 0, none⟩)) (by kernel_rfl) ?_
  refine step_val (w' := w) rfl (.pointer (some ⟨g, 38, none⟩)) (by kernel_rfl) ?_
  refine wpList_frame (a' := { tmps := #[.pointer (some ⟨g, 0, none⟩), .slice (some ⟨hb, 0, none⟩) 1 1, undef, undef, .pointer (some ⟨g, 0, none⟩), .pointer (some ⟨g, 0, none⟩), .pointer (some ⟨g, 0, none⟩), .pointer (some ⟨g, 38, none⟩), undef, undef, undef, undef, undef], defers := [] }) (by kernel_rfl) ?_
  refine load_cell rfl _ _ rfl _ rfl (.slice (some ⟨gs, 0, none⟩) n cap) (show w.cell? ⟨g, 38, none⟩ = some (.slice (some ⟨gs, 0, none⟩) n cap) from A.cell 38) (by kernel_rfl) ?_
  refine move_step rfl _ rfl ?_
  refine wpList_frame (a' := { tmps := #[.pointer (some ⟨g, 0, none⟩), .slice (some ⟨hb, 0, none⟩) 1 1, undef, undef, .pointer (some ⟨g, 0, none⟩), .pointer (some ⟨g, 0, none⟩), .pointer (some ⟨g, 0, none⟩), .pointer (some ⟨g, 38, none⟩), .slice (some ⟨gs, 0, none⟩) n cap, .slice (some ⟨hb, 0, none⟩) 1 1, undef, undef, undef], defers := [] }) (by kernel_rfl) ?_
  refine app_own laidG rfl _ _ rfl rfl L rfl Y.reads (by decide) (by unfold maxLen; omega) (by omega) (by have := G.size; omega) _ rfl ?_
  intro qb5 qc6 qw1 qL2 qr3 ho
  have qt4 := touch_grownG qr3
  have qL2_o := L.low'
  have qL2_p := L.lt
  replace ho := own_or ho
  replace A := A.touch qt4 (by omega)
  replace P := P.touch qt4 (by omega)
  replace G := G.touch qt4 (by omega)
  have qt4_s := qt4.size
  have qL2_o2 := qL2.low'
  have qL2_l := qL2.lt
  clear L Y
  refine step_val (w' := qw1) rfl (.pointer (some ⟨g, 0, none⟩)) (by kernel_rfl) ?_
  refine wpList_frame (a' := { tmps := #[.pointer (some ⟨g, 0, none⟩), .slice (some ⟨hb, 0, none⟩) 1 1, undef, undef, .pointer (some ⟨g, 0, none⟩), .pointer (some ⟨g, 0, none⟩), .pointer (some ⟨g, 0, none⟩), .pointer (some ⟨g, 38, none⟩), .slice (some ⟨gs, 0, none⟩) n cap, .slice (some ⟨hb, 0, none⟩) 1 1, .slice (some ⟨qb5, 0, none⟩) (n + 1) qc6, .pointer (some ⟨g, 0, none⟩), undef], defers := [] }) (by kernel_rfl) ?_
  refine step_val (w' := qw1) rfl (.pointer (some ⟨g, 38, none⟩)) (by kernel_rfl) ?_
  refine wpList_frame (a' := { tmps := #[.pointer (some ⟨g, 0, none⟩), .slice (some ⟨hb, 0, none⟩) 1 1, undef, undef, .pointer (some ⟨g, 0, none⟩), .pointer (some ⟨g, 0, none⟩), .pointer (some ⟨g, 0, none⟩), .pointer (some ⟨g, 38, none⟩), .slice (some ⟨gs, 0, none⟩) n cap, .slice (some ⟨hb, 0, none⟩) 1 1, .slice (some ⟨qb5, 0, none⟩) (n + 1) qc6, .pointer (some ⟨g, 0, none⟩), .pointer (some ⟨g, 38, none⟩)], defers := [] }) (by kernel_rfl) ?_
  refine store_cell (cs' := actCells d now (.slice (some ⟨qb5, 0, none⟩) (n + 1) qc6)) A rfl _ _ _ rfl 38 rfl (.slice (some ⟨qb5, 0, none⟩) (n + 1) qc6) rfl rfl (by kernel_rfl) (by rw [act_size]; decide) rfl ?_
  intro qw7 qt8 qB9
  clear A
  replace P := P.touch qt8 (by omega)
  replace qL2 := qL2.touch qt8 (by omega)
  replace G := G.touch qt8 (by omega)
  have qt8_s := qt8.size
  refine wpList_frame (a' := { tmps := #[.pointer (some ⟨g, 0, none⟩), .slice (some ⟨hb, 0, none⟩) 1 1, undef, undef, .pointer (some ⟨g, 0, none⟩), .pointer (some ⟨g, 0, none⟩), .pointer (some ⟨g, 0, none⟩), .pointer (some ⟨g, 38, none⟩), .slice (some ⟨gs, 0, none⟩) n cap, .slice (some ⟨hb, 0, none⟩) 1 1, .slice (some ⟨qb5, 0, none⟩) (n + 1) qc6, .pointer (some ⟨g, 0, none⟩), .pointer (some ⟨g, 38, none⟩)], defers := [] }) (by kernel_rfl) ?_
  go_wp2_with (fail)
  exact bodyPost_end (v := .tuple #[]) (results_none rfl _ _ _) rfl ⟨rfl, ⟨_, _, _, ⟨qB9, qL2, P, pa, lo, (by omega), (by omega), (by omega)⟩⟩, G⟩

set_option maxRecDepth 20000 in
set_option maxHeartbeats 8000000 in
theorem implActOf (c : Cn) (ps : List (Int × ByteArray)) (now : Int) (gc : GoodC c ps) (w : World) (R : Rd shP w c.pa c.pn ps) :
    Calls Try.prog 49 #[.agg (cnCells c), .int .i64 now] w fun e w' => ∃ g pg gs, e = .returned (.pointer (some ⟨g, 0, none⟩)) ∧ Acts w.heap.size g pg now ps { c with pa := some ⟨pg, 0, none⟩, pc := c.pn } gs 0 0 [] w' ∧ Since w w' := by
  have hc := fun wx Rx => implFresh c ps gc wx Rx
  unfold cnVal at hc
  have G := (Since.refl w).alloc (.cells (cnCells c) 42)
  have A := Blk.new w (cnCells c) 42
  go_enter Try.func49, Try.ntmps49
  go_upto_region 1 with (fail)
  generalize w.alloc (.cells (cnCells c) 42) = x0 at A G ⊢
  have hA := A.lt
  refine wp_region_lit ?_
  refine load_big cn_big (cn_size _) A rfl _ rfl rfl ?_
  refine call_step rfl 32 #[.agg (cnCells c)] (by kernel_rfl) (hc _ (R.since G)) ?_
  rintro _ qw1 ⟨pg, rfl, H, qg2⟩
  refine ⟨_, rfl, ?_⟩
  replace A := A.since qg2
  replace G := G.trans qg2
  have qg2_s := qg2.size
  have hH0 := H.low'
  replace H := H.raise (show w.heap.size ≤ pg by omega)
  have hH := H.lt
  refine wpList_frame (a' := { tmps := #[.agg (cnCells c), .int .i64 now, .pointer (some ⟨w.heap.size, 0, none⟩), undef, .pointer none, .agg (cnCells c), .agg (cnCells { c with pa := some ⟨pg, 0, none⟩, pc := c.pn }), undef, undef, undef, undef], defers := [] }) (by kernel_rfl) ?_
  refine move_step rfl _ rfl ?_
  refine build_none rfl rfl ?_
  have qL4 := heldG0 qw1
  have qg5 := (Since.refl qw1).alloc (.cells #[] 79)
  replace A := A.since qg5
  replace H := H.since qg5
  replace G := G.trans qg5
  generalize qw1.alloc (.cells #[] 79) = qw3 at A H G qL4 qg5 ⊢
  have qg5_s := qg5.size
  have qL4_g := G.size
  have qL4_l := qL4.lt
  replace qL4 := qL4.raise (show w.heap.size ≤ qw1.heap.size by omega)
  refine wpList_frame (a' := { tmps := #[.agg (cnCells c), .int .i64 now, .pointer (some ⟨w.heap.size, 0, none⟩), undef, .pointer none, .agg (cnCells c), .agg (cnCells { c with pa := some ⟨pg, 0, none⟩, pc := c.pn }), .int .i64 now, .slice (some ⟨qw1.heap.size, 0, none⟩) 0 0, undef, undef], defers := [] }) (by kernel_rfl) ?_
  refine step_val (w' := qw3) rfl (.agg (actCells { c with pa := some ⟨pg, 0, none⟩, pc := c.pn } now (.slice (some ⟨qw1.heap.size, 0, none⟩) 0 0))) (by kernel_rfl) ?_
  refine step_val (w' := qw3.alloc (.cells (actCells { c with pa := some ⟨pg, 0, none⟩, pc := c.pn } now (.slice (some ⟨qw1.heap.size, 0, none⟩) 0 0)) 84)) rfl (.pointer (some ⟨qw3.heap.size, 0, none⟩)) (by kernel_rfl) ?_
  have qB7 := Blk.new qw3 (actCells { c with pa := some ⟨pg, 0, none⟩, pc := c.pn } now (.slice (some ⟨qw1.heap.size, 0, none⟩) 0 0)) 84
  have qg8 := (Since.refl qw3).alloc (.cells (actCells { c with pa := some ⟨pg, 0, none⟩, pc := c.pn } now (.slice (some ⟨qw1.heap.size, 0, none⟩) 0 0)) 84)
  replace A := A.since qg8
  replace H := H.since qg8
  replace qL4 := qL4.since qg8
  replace G := G.trans qg8
  generalize qw3.alloc (.cells (actCells { c with pa := some ⟨pg, 0, none⟩, pc := c.pn } now (.slice (some ⟨qw1.heap.size, 0, none⟩) 0 0)) 84) = qw6 at A H qL4 G qB7 qg8 ⊢
  have qB7_l := qB7.lt
  have qg8_s := qg8.size
  refine wpList_frame (a' := { tmps := #[.agg (cnCells c), .int .i64 now, .pointer (some ⟨w.heap.size, 0, none⟩), undef, .pointer none, .agg (cnCells c), .agg (cnCells { c with pa := some ⟨pg, 0, none⟩, pc := c.pn }), .int .i64 now, .slice (some ⟨qw1.heap.size, 0, none⟩) 0 0, .agg (actCells { c with pa := some ⟨pg, 0, none⟩, pc := c.pn } now (.slice (some ⟨qw1.heap.size, 0, none⟩) 0 0)), .pointer (some ⟨qw3.heap.size, 0, none⟩)], defers := [] }) (by kernel_rfl) ?_
  refine step_val (w' := qw6) rfl (.pointer (some ⟨qw3.heap.size, 0, none⟩)) (by kernel_rfl) ?_
  refine wpList_frame (a' := { tmps := #[.agg (cnCells c), .int .i64 now, .pointer (some ⟨w.heap.size, 0, none⟩), undef, .pointer (some ⟨qw3.heap.size, 0, none⟩), .agg (cnCells c), .agg (cnCells { c with pa := some ⟨pg, 0, none⟩, pc := c.pn }), .int .i64 now, .slice (some ⟨qw1.heap.size, 0, none⟩) 0 0, .agg (actCells { c with pa := some ⟨pg, 0, none⟩, pc := c.pn } now (.slice (some ⟨qw1.heap.size, 0, none⟩) 0 0)), .pointer (some ⟨qw3.heap.size, 0, none⟩)], defers := [] }) (by kernel_rfl) ?_
  go_wp2_with (fail)
  go_ret
  exact ⟨_, _, _, rfl, ⟨qB7, qL4, H, rfl, by omega, by omega, by omega, by omega⟩, G⟩

set_option maxRecDepth 20000 in
set_option maxHeartbeats 8000000 in
theorem implFinish (B g pg : Nat) (now : Int) (ps : List (Int × ByteArray)) (d : Cn) (gs n cap : Nat) (xs : List Sg) (why : Int) (w : World) (a : Acts B g pg now ps d gs n cap xs w) :
    Calls Try.prog 82 #[.pointer (some ⟨g, 0, none⟩), .int .i64 why] w fun e w' => e = .returned (.tuple #[]) ∧ ActsX B g pg now ps (endC d why) (xs) w' ∧ Base B w w' := by
  obtain ⟨A, L, P, pa, lo, i, j, l⟩ := a
  have hA := A.lt
  have hL := L.lt
  have hLo := L.low'
  have hP := P.lt
  have hPo := P.low'
  have G : Base B w w := Base.refl (by omega)
  go_enter Try.func82, Try.ntmps82
  go_upto_region 0 with (fail)
  refine wp_region_lit ?_
  refine move_step rfl _ rfl ?_
  refine move_step rfl _ rfl ?_
  refine wpList_frame (a' := { tmps := #[.pointer (some ⟨g, 0, none⟩), .int .i64 why, undef, undef, .pointer (some ⟨g, 0, none⟩), .pointer (some ⟨g, 0, none⟩), undef, undef, undef, undef, undef, undef, undef, undef, undef, undef, undef, undef, undef, undef, undef, undef, undef], defers := [] }) (by kernel_rfl) ?_
  refine move_step rfl _ rfl ?_
  refine step_val (w' := w) rfl (.pointer (some ⟨g, 0, none⟩)) (by kernel_rfl) ?_
  refine wpList_frame (a' := { tmps := #[.pointer (some ⟨g, 0, none⟩), .int .i64 why, undef, undef, .pointer (some ⟨g, 0, none⟩), .pointer (some ⟨g, 0, none⟩), .int .i64 why, .pointer (some ⟨g, 0, none⟩), undef, undef, undef, undef, undef, undef, undef, undef, undef, undef, undef, undef, undef, undef, undef], defers := [] }) (by kernel_rfl) ?_
  refine step_val (w' := w) rfl (.pointer (some ⟨g, 0, none⟩)) (by kernel_rfl) ?_
  refine wpList_frame (a' := { tmps := #[.pointer (some ⟨g, 0, none⟩), .int .i64 why, undef, undef, .pointer (some ⟨g, 0, none⟩), .pointer (some ⟨g, 0, none⟩), .int .i64 why, .pointer (some ⟨g, 0, none⟩), .pointer (some ⟨g, 0, none⟩), undef, undef, undef, undef, undef, undef, undef, undef, undef, undef, undef, undef, undef, undef], defers := [] }) (by kernel_rfl) ?_
  refine store_cell (cs' := actCells { d with st := 0 } now (.slice (some ⟨gs, 0, none⟩) n cap)) A rfl _ _ _ rfl 0 rfl (.int .i64 0) rfl rfl (by kernel_rfl) (by rw [act_size]; decide) rfl ?_
  intro qw1 qt2 qB3
  clear A
  replace L := L.touch qt2 (by omega)
  replace P := P.touch qt2 (by omega)
  replace G := G.touch qt2 (by omega)
  have qt2_s := qt2.size
  refine step_val (w' := qw1) rfl (.pointer (some ⟨g, 0, none⟩)) (by kernel_rfl) ?_
  refine wpList_frame (a' := { tmps := #[.pointer (some ⟨g, 0, none⟩), .int .i64 why, undef, undef, .pointer (some ⟨g, 0, none⟩), .pointer (some ⟨g, 0, none⟩), .int .i64 why, .pointer (some ⟨g, 0, none⟩), .pointer (some ⟨g, 0, none⟩), .pointer (some ⟨g, 0, none⟩), undef, undef, undef, undef, undef, undef, undef, undef, undef, undef, undef, undef, undef], defers := [] }) (by kernel_rfl) ?_
  refine step_val (w' := qw1) rfl (.pointer (some ⟨g, 35, none⟩)) (by kernel_rfl) ?_
  refine wpList_frame (a' := { tmps := #[.pointer (some ⟨g, 0, none⟩), .int .i64 why, undef, undef, .pointer (some ⟨g, 0, none⟩), .pointer (some ⟨g, 0, none⟩), .int .i64 why, .pointer (some ⟨g, 0, none⟩), .pointer (some ⟨g, 0, none⟩), .pointer (some ⟨g, 0, none⟩), .pointer (some ⟨g, 35, none⟩), undef, undef, undef, undef, undef, undef, undef, undef, undef, undef, undef, undef], defers := [] }) (by kernel_rfl) ?_
  refine store_cell (cs' := actCells { d with st := 0, why := why } now (.slice (some ⟨gs, 0, none⟩) n cap)) qB3 rfl _ _ _ rfl 35 rfl (.int .i64 why) rfl rfl (by kernel_rfl) (by rw [act_size]; decide) rfl ?_
  intro qw4 qt5 qB6
  clear qB3
  replace L := L.touch qt5 (by omega)
  replace P := P.touch qt5 (by omega)
  replace G := G.touch qt5 (by omega)
  have qt5_s := qt5.size
  refine wpList_frame (a' := { tmps := #[.pointer (some ⟨g, 0, none⟩), .int .i64 why, undef, undef, .pointer (some ⟨g, 0, none⟩), .pointer (some ⟨g, 0, none⟩), .int .i64 why, .pointer (some ⟨g, 0, none⟩), .pointer (some ⟨g, 0, none⟩), .pointer (some ⟨g, 0, none⟩), .pointer (some ⟨g, 35, none⟩), undef, undef, undef, undef, undef, undef, undef, undef, undef, undef, undef, undef], defers := [] }) (by kernel_rfl) ?_
  go_upto_region 1 with (fail)
  refine wp_region_lit ?_
  refine move_step rfl _ rfl ?_
  refine move_step rfl _ rfl ?_
  refine wpList_frame (a' := { tmps := #[.pointer (some ⟨g, 0, none⟩), .int .i64 why, undef, undef, .pointer (some ⟨g, 0, none⟩), .pointer (some ⟨g, 0, none⟩), .int .i64 why, .pointer (some ⟨g, 0, none⟩), .pointer (some ⟨g, 0, none⟩), .pointer (some ⟨g, 0, none⟩), .pointer (some ⟨g, 35, none⟩), .pointer (some ⟨g, 0, none⟩), .pointer (some ⟨g, 0, none⟩), undef, undef, undef, undef, undef, undef, undef, undef, undef, undef], defers := [] }) (by kernel_rfl) ?_
  refine move_step rfl _ rfl ?_
  refine move_step rfl _ rfl ?_
  refine wpList_frame (a' := { tmps := #[.pointer (some ⟨g, 0, none⟩), .int .i64 why, undef, undef, .pointer (some ⟨g, 0, none⟩), .pointer (some ⟨g, 0, none⟩), .int .i64 why, .pointer (some ⟨g, 0, none⟩), .pointer (some ⟨g, 0, none⟩), .pointer (some ⟨g, 0, none⟩), .pointer (some ⟨g, 35, none⟩), .pointer (some ⟨g, 0, none⟩), .pointer (some ⟨g, 0, none⟩), .pointer (some ⟨g, 0, none⟩), .pointer (some ⟨g, 0, none⟩), undef, undef, undef, undef, undef, undef, undef, undef], defers := [] }) (by kernel_rfl) ?_
  refine step_val (w' := qw4) rfl (.pointer (some ⟨g, 0, none⟩)) (by kernel_rfl) ?_
  refine step_val (w' := qw4) rfl (.pointer (some ⟨g, 31, none⟩)) (by kernel_rfl) ?_
  refine wpList_frame (a' := { tmps := #[.pointer (some ⟨g, 0, none⟩), .int .i64 why, undef, undef, .pointer (some ⟨g, 0, none⟩), .pointer (some ⟨g, 0, none⟩), .int .i64 why, .pointer (some ⟨g, 0, none⟩), .pointer (some ⟨g, 0, none⟩), .pointer (some ⟨g, 0, none⟩), .pointer (some ⟨g, 35, none⟩), .pointer (some ⟨g, 0, none⟩), .pointer (some ⟨g, 0, none⟩), .pointer (some ⟨g, 0, none⟩), .pointer (some ⟨g, 0, none⟩), .pointer (some ⟨g, 0, none⟩), .pointer (some ⟨g, 31, none⟩), undef, undef, undef, undef, undef, undef], defers := [] }) (by kernel_rfl) ?_
  refine store_cell (cs' := actCells { d with st := 0, why := why, agn := 0 } now (.slice (some ⟨gs, 0, none⟩) n cap)) qB6 rfl _ _ _ rfl 31 rfl (.int .i64 0) rfl rfl (by kernel_rfl) (by rw [act_size]; decide) rfl ?_
  intro qw7 qt8 qB9
  clear qB6
  replace L := L.touch qt8 (by omega)
  replace P := P.touch qt8 (by omega)
  replace G := G.touch qt8 (by omega)
  have qt8_s := qt8.size
  refine step_val (w' := qw7) rfl (.pointer (some ⟨g, 0, none⟩)) (by kernel_rfl) ?_
  refine wpList_frame (a' := { tmps := #[.pointer (some ⟨g, 0, none⟩), .int .i64 why, undef, undef, .pointer (some ⟨g, 0, none⟩), .pointer (some ⟨g, 0, none⟩), .int .i64 why, .pointer (some ⟨g, 0, none⟩), .pointer (some ⟨g, 0, none⟩), .pointer (some ⟨g, 0, none⟩), .pointer (some ⟨g, 35, none⟩), .pointer (some ⟨g, 0, none⟩), .pointer (some ⟨g, 0, none⟩), .pointer (some ⟨g, 0, none⟩), .pointer (some ⟨g, 0, none⟩), .pointer (some ⟨g, 0, none⟩), .pointer (some ⟨g, 31, none⟩), .pointer (some ⟨g, 0, none⟩), undef, undef, undef, undef, undef], defers := [] }) (by kernel_rfl) ?_
  refine step_val (w' := qw7) rfl (.pointer (some ⟨g, 32, none⟩)) (by kernel_rfl) ?_
  refine wpList_frame (a' := { tmps := #[.pointer (some ⟨g, 0, none⟩), .int .i64 why, undef, undef, .pointer (some ⟨g, 0, none⟩), .pointer (some ⟨g, 0, none⟩), .int .i64 why, .pointer (some ⟨g, 0, none⟩), .pointer (some ⟨g, 0, none⟩), .pointer (some ⟨g, 0, none⟩), .pointer (some ⟨g, 35, none⟩), .pointer (some ⟨g, 0, none⟩), .pointer (some ⟨g, 0, none⟩), .pointer (some ⟨g, 0, none⟩), .pointer (some ⟨g, 0, none⟩), .pointer (some ⟨g, 0, none⟩), .pointer (some ⟨g, 31, none⟩), .pointer (some ⟨g, 0, none⟩), .pointer (some ⟨g, 32, none⟩), undef, undef, undef, undef], defers := [] }) (by kernel_rfl) ?_
  refine store_cell (cs' := actCells { d with st := 0, why := why, agn := 0, prb := 0 } now (.slice (some ⟨gs, 0, none⟩) n cap)) qB9 rfl _ _ _ rfl 32 rfl (.int .i64 0) rfl rfl (by kernel_rfl) (by rw [act_size]; decide) rfl ?_
  intro qw10 qt11 qB12
  clear qB9
  replace L := L.touch qt11 (by omega)
  replace P := P.touch qt11 (by omega)
  replace G := G.touch qt11 (by omega)
  have qt11_s := qt11.size
  refine step_val (w' := qw10) rfl (.pointer (some ⟨g, 0, none⟩)) (by kernel_rfl) ?_
  refine wpList_frame (a' := { tmps := #[.pointer (some ⟨g, 0, none⟩), .int .i64 why, undef, undef, .pointer (some ⟨g, 0, none⟩), .pointer (some ⟨g, 0, none⟩), .int .i64 why, .pointer (some ⟨g, 0, none⟩), .pointer (some ⟨g, 0, none⟩), .pointer (some ⟨g, 0, none⟩), .pointer (some ⟨g, 35, none⟩), .pointer (some ⟨g, 0, none⟩), .pointer (some ⟨g, 0, none⟩), .pointer (some ⟨g, 0, none⟩), .pointer (some ⟨g, 0, none⟩), .pointer (some ⟨g, 0, none⟩), .pointer (some ⟨g, 31, none⟩), .pointer (some ⟨g, 0, none⟩), .pointer (some ⟨g, 32, none⟩), .pointer (some ⟨g, 0, none⟩), undef, undef, undef], defers := [] }) (by kernel_rfl) ?_
  refine step_val (w' := qw10) rfl (.pointer (some ⟨g, 33, none⟩)) (by kernel_rfl) ?_
  refine wpList_frame (a' := { tmps := #[.pointer (some ⟨g, 0, none⟩), .int .i64 why, undef, undef, .pointer (some ⟨g, 0, none⟩), .pointer (some ⟨g, 0, none⟩), .int .i64 why, .pointer (some ⟨g, 0, none⟩), .pointer (some ⟨g, 0, none⟩), .pointer (some ⟨g, 0, none⟩), .pointer (some ⟨g, 35, none⟩), .pointer (some ⟨g, 0, none⟩), .pointer (some ⟨g, 0, none⟩), .pointer (some ⟨g, 0, none⟩), .pointer (some ⟨g, 0, none⟩), .pointer (some ⟨g, 0, none⟩), .pointer (some ⟨g, 31, none⟩), .pointer (some ⟨g, 0, none⟩), .pointer (some ⟨g, 32, none⟩), .pointer (some ⟨g, 0, none⟩), .pointer (some ⟨g, 33, none⟩), undef, undef], defers := [] }) (by kernel_rfl) ?_
  refine store_cell (cs' := actCells { d with st := 0, why := why, agn := 0, prb := 0, rst := 0 } now (.slice (some ⟨gs, 0, none⟩) n cap)) qB12 rfl _ _ _ rfl 33 rfl (.int .i64 0) rfl rfl (by kernel_rfl) (by rw [act_size]; decide) rfl ?_
  intro qw13 qt14 qB15
  clear qB12
  replace L := L.touch qt14 (by omega)
  replace P := P.touch qt14 (by omega)
  replace G := G.touch qt14 (by omega)
  have qt14_s := qt14.size
  refine step_val (w' := qw13) rfl (.pointer (some ⟨g, 0, none⟩)) (by kernel_rfl) ?_
  refine wpList_frame (a' := { tmps := #[.pointer (some ⟨g, 0, none⟩), .int .i64 why, undef, undef, .pointer (some ⟨g, 0, none⟩), .pointer (some ⟨g, 0, none⟩), .int .i64 why, .pointer (some ⟨g, 0, none⟩), .pointer (some ⟨g, 0, none⟩), .pointer (some ⟨g, 0, none⟩), .pointer (some ⟨g, 35, none⟩), .pointer (some ⟨g, 0, none⟩), .pointer (some ⟨g, 0, none⟩), .pointer (some ⟨g, 0, none⟩), .pointer (some ⟨g, 0, none⟩), .pointer (some ⟨g, 0, none⟩), .pointer (some ⟨g, 31, none⟩), .pointer (some ⟨g, 0, none⟩), .pointer (some ⟨g, 32, none⟩), .pointer (some ⟨g, 0, none⟩), .pointer (some ⟨g, 33, none⟩), .pointer (some ⟨g, 0, none⟩), undef], defers := [] }) (by kernel_rfl) ?_
  refine step_val (w' := qw13) rfl (.pointer (some ⟨g, 36, none⟩)) (by kernel_rfl) ?_
  refine wpList_frame (a' := { tmps := #[.pointer (some ⟨g, 0, none⟩), .int .i64 why, undef, undef, .pointer (some ⟨g, 0, none⟩), .pointer (some ⟨g, 0, none⟩), .int .i64 why, .pointer (some ⟨g, 0, none⟩), .pointer (some ⟨g, 0, none⟩), .pointer (some ⟨g, 0, none⟩), .pointer (some ⟨g, 35, none⟩), .pointer (some ⟨g, 0, none⟩), .pointer (some ⟨g, 0, none⟩), .pointer (some ⟨g, 0, none⟩), .pointer (some ⟨g, 0, none⟩), .pointer (some ⟨g, 0, none⟩), .pointer (some ⟨g, 31, none⟩), .pointer (some ⟨g, 0, none⟩), .pointer (some ⟨g, 32, none⟩), .pointer (some ⟨g, 0, none⟩), .pointer (some ⟨g, 33, none⟩), .pointer (some ⟨g, 0, none⟩), .pointer (some ⟨g, 36, none⟩)], defers := [] }) (by kernel_rfl) ?_
  refine store_cell (cs' := actCells { d with st := 0, why := why, agn := 0, prb := 0, rst := 0, owe := false } now (.slice (some ⟨gs, 0, none⟩) n cap)) qB15 rfl _ _ _ rfl 36 rfl (.bool false) rfl rfl (by kernel_rfl) (by rw [act_size]; decide) rfl ?_
  intro qw16 qt17 qB18
  clear qB15
  replace L := L.touch qt17 (by omega)
  replace P := P.touch qt17 (by omega)
  replace G := G.touch qt17 (by omega)
  have qt17_s := qt17.size
  refine wpList_frame (a' := { tmps := #[.pointer (some ⟨g, 0, none⟩), .int .i64 why, undef, undef, .pointer (some ⟨g, 0, none⟩), .pointer (some ⟨g, 0, none⟩), .int .i64 why, .pointer (some ⟨g, 0, none⟩), .pointer (some ⟨g, 0, none⟩), .pointer (some ⟨g, 0, none⟩), .pointer (some ⟨g, 35, none⟩), .pointer (some ⟨g, 0, none⟩), .pointer (some ⟨g, 0, none⟩), .pointer (some ⟨g, 0, none⟩), .pointer (some ⟨g, 0, none⟩), .pointer (some ⟨g, 0, none⟩), .pointer (some ⟨g, 31, none⟩), .pointer (some ⟨g, 0, none⟩), .pointer (some ⟨g, 32, none⟩), .pointer (some ⟨g, 0, none⟩), .pointer (some ⟨g, 33, none⟩), .pointer (some ⟨g, 0, none⟩), .pointer (some ⟨g, 36, none⟩)], defers := [] }) (by kernel_rfl) ?_
  go_wp2_with (fail)
  exact bodyPost_end (v := .tuple #[]) (results_none rfl _ _ _) rfl ⟨rfl, ⟨_, _, _, ⟨qB18, L, P, pa, lo, (by omega), (by omega), (by omega)⟩⟩, G⟩
end Go.Proofs.Ytlccnnoofbclcaa
