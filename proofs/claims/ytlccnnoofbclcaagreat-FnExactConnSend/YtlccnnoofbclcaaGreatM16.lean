/-
  An act: made, segments gathered, an end that is over.
  What an act's methods do: how long to wait, segments gathered, an end moved on.
-/
import Derived.Test.YtlccnnoofbclcaaGreatM13
import Derived.Test.YtlccnnoofbclcaaGreatConn
import Derived.Test.YtlccnnoofbclcaaGreatM7
import Derived.Deep.DeepCutAuto
import Derived.Test.YtlccnnoofbclcaaGreatActV
import Derived.Test.YtlccnnoofbclcaaGreatM15
namespace Go.Proofs.YtlccnnoofbclcaaGreat
open Go.ChangeShapes Go.WideShapes Go.ChangeAt Go.RowKit
set_option linter.unusedVariables false
set_option maxRecDepth 10000

set_option maxRecDepth 10000 in
theorem run_build1 (s : Sg) (w : World) : (Instr.buildSlice 43 1 #[(0, .agg (sgCells s))]).run Tryz.prog w = .ok (.slice (some ⟨w.heap.size, 0, none⟩) 1 1) (w.alloc (.cells (sgCells s) 72)) := by kernel_rfl

/-- A list of one segment is made. -/
theorem does_build1 {op : Oper} {a : Act} {w : World} {R : Value → World → Prop} (s : Sg) (x : Operand) (ho : op.op = .buildSlice 43 1 #[(0, x)]) (hx : a.eval x = .agg (sgCells s))
    (h : R (.slice (some ⟨w.heap.size, 0, none⟩) 1 1) (w.alloc (.cells (sgCells s) 72))) : does Tryz.prog op a w R := by
  have e := run_build1 s w
  have e2 : (Array.map (fun y : Nat × Operand => (y.fst, a.eval y.snd)) #[(0, x)]) = #[(0, .agg (sgCells s))] := by simp [hx]
  unfold does execOp
  simp only [ho, e2, Sem.run_bind, e, Result.andThen_ok, Sem.run_pure]
  exact h

set_option maxRecDepth 20000 in
set_option maxHeartbeats 8000000 in
theorem implSends (B g pg : Nat) (now : Int) (ps : List (Int × ByteArray)) (d : Cn) (gs n cap : Nat) (xs : List Sg) (s : Sg) (hb : Nat) (hn : n ≤ 200000) (w : World) (a : Acts B g pg now ps d gs n cap xs w) (Y : Held shG w B hb 1 1 [s]) (hne : g ≠ hb) :
    Calls Tryz.prog 95 #[.pointer (some ⟨g, 0, none⟩), .slice (some ⟨hb, 0, none⟩) 1 1] w fun e w' => e = .returned (.tuple #[]) ∧ ActsX B g pg now ps (d) (xs ++ [s]) w' ∧ Base B w w' := by
  obtain ⟨A, L, P, pa, lo, i, j, l⟩ := a
  have hA := A.lt
  have hL := L.lt
  have hLo := L.low'
  have hP := P.lt
  have hPo := P.low'
  have G : Base B w w := Base.refl (by omega)
  have hY := Y.lt
  go_enter Tryz.func95, Tryz.ntmps95
  refine wp_region_lit ?_
  refine move_step rfl _ rfl ?_
  refine move_step rfl _ rfl ?_
  refine wpList_frame (a' := { tmps := #[.pointer (some ⟨g, 0, none⟩), .slice (some ⟨hb, 0, none⟩) 1 1, undef, undef, .pointer (some ⟨g, 0, none⟩), .pointer (some ⟨g, 0, none⟩), undef, undef, undef, undef, undef, undef, undef], defers := [] }) (by kernel_rfl) ?_
  refine step_val (w' := w) rfl (.pointer (some ⟨g, 0, none⟩)) (by kernel_rfl) ?_
  refine step_val (w' := w) rfl (.pointer (some ⟨g, 38, none⟩)) (by kernel_rfl) ?_
  refine wpList_frame (a' := { tmps := #[.pointer (some ⟨g, 0, none⟩), .slice (some ⟨hb, 0, none⟩) 1 1, undef, undef, .pointer (some ⟨g, 0, none⟩), .pointer (some ⟨g, 0, none⟩), .pointer (some ⟨g, 0, none⟩), .pointer (some ⟨g, 38, none⟩), undef, undef, undef, undef, undef], defers := [] }) (by kernel_rfl) ?_
  refine load_cell rfl _ _ rfl _ rfl (.slice (some ⟨gs, 0, none⟩) n cap) (show w.cell? ⟨g, 38, none⟩ = some (.slice (some ⟨gs, 0, none⟩) n cap) from A.cell 38) (by kernel_rfl) ?_
  refine move_step rfl _ rfl ?_
  refine wpList_frame (a' := { tmps := #[.pointer (some ⟨g, 0, none⟩), .slice (some ⟨hb, 0, none⟩) 1 1, undef, undef, .pointer (some ⟨g, 0, none⟩), .pointer (some ⟨g, 0, none⟩), .pointer (some ⟨g, 0, none⟩), .pointer (some ⟨g, 38, none⟩), .slice (some ⟨gs, 0, none⟩) n cap, .slice (some ⟨hb, 0, none⟩) 1 1, undef, undef, undef], defers := [] }) (by kernel_rfl) ?_
  refine app_own laidG rfl _ _ rfl rfl L rfl Y.reads (by decide) (by unfold maxLen; omega) (by omega) (by have := G.size; omega) _ rfl ?_
  intro qb5 qc6 qw1 qL2 qr3 ho
  have qt4 := touch_grownG qr3
  have qL2_o := L.low'
  have qL2_p := L.lt
  replace ho := own_or ho
  replace A := A.touch qt4 (by omega)
  replace P := P.touch qt4 (by omega)
  replace G := G.touch qt4 (by omega)
  have qt4_s := qt4.size
  have qL2_o2 := qL2.low'
  have qL2_l := qL2.lt
  clear L Y
  refine step_val (w' := qw1) rfl (.pointer (some ⟨g, 0, none⟩)) (by kernel_rfl) ?_
  refine wpList_frame (a' := { tmps := #[.pointer (some ⟨g, 0, none⟩), .slice (some ⟨hb, 0, none⟩) 1 1, undef, undef, .pointer (some ⟨g, 0, none⟩), .pointer (some ⟨g, 0, none⟩), .pointer (some ⟨g, 0, none⟩), .pointer (some ⟨g, 38, none⟩), .slice (some ⟨gs, 0, none⟩) n cap, .slice (some ⟨hb, 0, none⟩) 1 1, .slice (some ⟨qb5, 0, none⟩) (n + 1) qc6, .pointer (some ⟨g, 0, none⟩), undef], defers := [] }) (by kernel_rfl) ?_
  refine step_val (w' := qw1) rfl (.pointer (some ⟨g, 38, none⟩)) (by kernel_rfl) ?_
  refine wpList_frame (a' := { tmps := #[.pointer (some ⟨g, 0, none⟩), .slice (some ⟨hb, 0, none⟩) 1 1, undef, undef, .pointer (some ⟨g, 0, none⟩), .pointer (some ⟨g, 0, none⟩), .pointer (some ⟨g, 0, none⟩), .pointer (some ⟨g, 38, none⟩), .slice (some ⟨gs, 0, none⟩) n cap, .slice (some ⟨hb, 0, none⟩) 1 1, .slice (some ⟨qb5, 0, none⟩) (n + 1) qc6, .pointer (some ⟨g, 0, none⟩), .pointer (some ⟨g, 38, none⟩)], defers := [] }) (by kernel_rfl) ?_
  refine store_cell (cs' := actCells d now (.slice (some ⟨qb5, 0, none⟩) (n + 1) qc6)) A rfl _ _ _ rfl 38 rfl (.slice (some ⟨qb5, 0, none⟩) (n + 1) qc6) rfl rfl (by kernel_rfl) (by rw [act_size]; decide) rfl ?_
  intro qw7 qt8 qB9
  clear A
  replace P := P.touch qt8 (by omega)
  replace qL2 := qL2.touch qt8 (by omega)
  replace G := G.touch qt8 (by omega)
  have qt8_s := qt8.size
  refine wpList_frame (a' := { tmps := #[.pointer (some ⟨g, 0, none⟩), .slice (some ⟨hb, 0, none⟩) 1 1, undef, undef, .pointer (some ⟨g, 0, none⟩), .pointer (some ⟨g, 0, none⟩), .pointer (some ⟨g, 0, none⟩), .pointer (some ⟨g, 38, none⟩), .slice (some ⟨gs, 0, none⟩) n cap, .slice (some ⟨hb, 0, none⟩) 1 1, .slice (some ⟨qb5, 0, none⟩) (n + 1) qc6, .pointer (some ⟨g, 0, none⟩), .pointer (some ⟨g, 38, none⟩)], defers := [] }) (by kernel_rfl) ?_
  go_wp2_with (fail)
  exact bodyPost_end (v := .tuple #[]) (results_none rfl _ _ _) rfl ⟨rfl, ⟨_, _, _, ⟨qB9, qL2, P, pa, lo, (by omega), (by omega), (by omega)⟩⟩, G⟩

set_option maxRecDepth 20000 in
set_option maxHeartbeats 8000000 in
theorem implActOf (c : Cn) (ps : List (Int × ByteArray)) (now : Int) (gc : GoodC c ps) (w : World) (R : Rd shP w c.pa c.pn ps) :
    Calls Tryz.prog 27 #[.agg (cnCells c), .int .i64 now] w fun e w' => ∃ g pg gs, e = .returned (.pointer (some ⟨g, 0, none⟩)) ∧ Acts w.heap.size g pg now ps { c with pa := some ⟨pg, 0, none⟩, pc := c.pn } gs 0 0 [] w' ∧ Since w w' := by
  have hc := fun wx Rx => implFresh c ps gc wx Rx
  unfold cnVal at hc
  have G := (Since.refl w).alloc (.cells (cnCells c) 42)
  have A := Blk.new w (cnCells c) 42
  go_enter Tryz.func27, Tryz.ntmps27
  go_upto_region 1 with (fail)
  generalize w.alloc (.cells (cnCells c) 42) = x0 at A G ⊢
  have hA := A.lt
  refine wp_region_lit ?_
  refine load_big cn_big (cn_size _) A rfl _ rfl rfl ?_
  refine call_step rfl 62 #[.agg (cnCells c)] (by kernel_rfl) (hc _ (R.since G)) ?_
  rintro _ qw1 ⟨pg, rfl, H, qg2⟩
  refine ⟨_, rfl, ?_⟩
  replace A := A.since qg2
  replace G := G.trans qg2
  have qg2_s := qg2.size
  have hH0 := H.low'
  replace H := H.raise (show w.heap.size ≤ pg by omega)
  have hH := H.lt
  refine wpList_frame (a' := { tmps := #[.agg (cnCells c), .int .i64 now, .pointer (some ⟨w.heap.size, 0, none⟩), undef, .pointer none, .agg (cnCells c), .agg (cnCells { c with pa := some ⟨pg, 0, none⟩, pc := c.pn }), undef, undef, undef, undef], defers := [] }) (by kernel_rfl) ?_
  refine move_step rfl _ rfl ?_
  refine build_none rfl rfl ?_
  have qL4 := heldG0 qw1
  have qg5 := (Since.refl qw1).alloc (.cells #[] 72)
  replace A := A.since qg5
  replace H := H.since qg5
  replace G := G.trans qg5
  generalize qw1.alloc (.cells #[] 72) = qw3 at A H G qL4 qg5 ⊢
  have qg5_s := qg5.size
  have qL4_g := G.size
  have qL4_l := qL4.lt
  replace qL4 := qL4.raise (show w.heap.size ≤ qw1.heap.size by omega)
  refine wpList_frame (a' := { tmps := #[.agg (cnCells c), .int .i64 now, .pointer (some ⟨w.heap.size, 0, none⟩), undef, .pointer none, .agg (cnCells c), .agg (cnCells { c with pa := some ⟨pg, 0, none⟩, pc := c.pn }), .int .i64 now, .slice (some ⟨qw1.heap.size, 0, none⟩) 0 0, undef, undef], defers := [] }) (by kernel_rfl) ?_
  refine step_val (w' := qw3) rfl (.agg (actCells { c with pa := some ⟨pg, 0, none⟩, pc := c.pn } now (.slice (some ⟨qw1.heap.size, 0, none⟩) 0 0))) (by kernel_rfl) ?_
  refine step_val (w' := qw3.alloc (.cells (actCells { c with pa := some ⟨pg, 0, none⟩, pc := c.pn } now (.slice (some ⟨qw1.heap.size, 0, none⟩) 0 0)) 65)) rfl (.pointer (some ⟨qw3.heap.size, 0, none⟩)) (by kernel_rfl) ?_
  have qB7 := Blk.new qw3 (actCells { c with pa := some ⟨pg, 0, none⟩, pc := c.pn } now (.slice (some ⟨qw1.heap.size, 0, none⟩) 0 0)) 65
  have qg8 := (Since.refl qw3).alloc (.cells (actCells { c with pa := some ⟨pg, 0, none⟩, pc := c.pn } now (.slice (some ⟨qw1.heap.size, 0, none⟩) 0 0)) 65)
  replace A := A.since qg8
  replace H := H.since qg8
  replace qL4 := qL4.since qg8
  replace G := G.trans qg8
  generalize qw3.alloc (.cells (actCells { c with pa := some ⟨pg, 0, none⟩, pc := c.pn } now (.slice (some ⟨qw1.heap.size, 0, none⟩) 0 0)) 65) = qw6 at A H qL4 G qB7 qg8 ⊢
  have qB7_l := qB7.lt
  have qg8_s := qg8.size
  refine wpList_frame (a' := { tmps := #[.agg (cnCells c), .int .i64 now, .pointer (some ⟨w.heap.size, 0, none⟩), undef, .pointer none, .agg (cnCells c), .agg (cnCells { c with pa := some ⟨pg, 0, none⟩, pc := c.pn }), .int .i64 now, .slice (some ⟨qw1.heap.size, 0, none⟩) 0 0, .agg (actCells { c with pa := some ⟨pg, 0, none⟩, pc := c.pn } now (.slice (some ⟨qw1.heap.size, 0, none⟩) 0 0)), .pointer (some ⟨qw3.heap.size, 0, none⟩)], defers := [] }) (by kernel_rfl) ?_
  refine step_val (w' := qw6) rfl (.pointer (some ⟨qw3.heap.size, 0, none⟩)) (by kernel_rfl) ?_
  refine wpList_frame (a' := { tmps := #[.agg (cnCells c), .int .i64 now, .pointer (some ⟨w.heap.size, 0, none⟩), undef, .pointer (some ⟨qw3.heap.size, 0, none⟩), .agg (cnCells c), .agg (cnCells { c with pa := some ⟨pg, 0, none⟩, pc := c.pn }), .int .i64 now, .slice (some ⟨qw1.heap.size, 0, none⟩) 0 0, .agg (actCells { c with pa := some ⟨pg, 0, none⟩, pc := c.pn } now (.slice (some ⟨qw1.heap.size, 0, none⟩) 0 0)), .pointer (some ⟨qw3.heap.size, 0, none⟩)], defers := [] }) (by kernel_rfl) ?_
  go_wp2_with (fail)
  go_ret
  exact ⟨_, _, _, rfl, ⟨qB7, qL4, H, rfl, by omega, by omega, by omega, by omega⟩, G⟩
end Go.Proofs.YtlccnnoofbclcaaGreat

namespace Go.Proofs.YtlccnnoofbclcaaGreat
open Go.ChangeShapes Go.WideShapes Go.ChangeAt Go.RowKit
set_option linter.unusedVariables false
set_option maxRecDepth 10000

set_option maxRecDepth 20000 in
set_option maxHeartbeats 8000000 in
theorem implFromNow (g : Nat) (now : Int) (d : Cn) (sv : Value) (h0 : 0 ≤ now) (h1 : now ≤ 1000000000) (w : World) (A : Blk g w (actCells d now sv)) :
    Calls Tryz.prog 98 #[.pointer (some ⟨g, 0, none⟩)] w fun e w' => e = .returned (.int .i64 (now + waitOf d.rA d.rS d.rV d.rD)) ∧ Since w w' := by
  have hw := fun wx => implWait d.rA d.rS d.rV d.rD wx
  have hb := wait_in11 d.rA d.rS d.rV d.rD
  unfold rttVal at hw
  generalize waitOf d.rA d.rS d.rV d.rD = wt at hw hb ⊢
  have hs : Hid (IntKind.i64.wrap (now + wt) = now + wt) := by
    show _ = _
    rw [IntWalk.i64_left]
    exact IntWalk.wrap64_in _ ⟨by omega, by omega⟩
  clear hb
  have G := Since.refl w
  go_enter Tryz.func98, Tryz.ntmps98
  go_upto_region 1 with (fail)
  refine wp_region_qs (wb := w) (by kernel_rfl) (by kernel_rfl) (Since.refl _) ?_
  refine q_val (by kernel_rfl) (.pointer (some ⟨g, 0, none⟩)) (fun x hx => by kernel_rfl) ?_
  refine q_frame (a' := { tmps := #[.pointer (some ⟨g, 0, none⟩), undef, .int .i64 0, .pointer (some ⟨g, 0, none⟩), undef, undef, undef, undef, undef, undef, undef, undef, undef, undef], defers := [] }) (by kernel_rfl) ?_
  refine q_val (by kernel_rfl) (.pointer (some ⟨g, 0, none⟩)) (fun x hx => by kernel_rfl) ?_
  refine q_frame (a' := { tmps := #[.pointer (some ⟨g, 0, none⟩), undef, .int .i64 0, .pointer (some ⟨g, 0, none⟩), .pointer (some ⟨g, 0, none⟩), undef, undef, undef, undef, undef, undef, undef, undef, undef], defers := [] }) (by kernel_rfl) ?_
  refine q_val (by kernel_rfl) (.pointer (some ⟨g, 37, none⟩)) (fun x hx => by kernel_rfl) ?_
  refine q_frame (a' := { tmps := #[.pointer (some ⟨g, 0, none⟩), undef, .int .i64 0, .pointer (some ⟨g, 0, none⟩), .pointer (some ⟨g, 0, none⟩), .pointer (some ⟨g, 37, none⟩), undef, undef, undef, undef, undef, undef, undef, undef], defers := [] }) (by kernel_rfl) ?_
  refine q_cell (by kernel_rfl) _ _ rfl ⟨g, 37, none⟩ rfl (.int .i64 now) (fun y hy => (A.since hy).cell 37) (fun y => by kernel_rfl) ?_
  refine q_frame (a' := { tmps := #[.pointer (some ⟨g, 0, none⟩), undef, .int .i64 0, .pointer (some ⟨g, 0, none⟩), .pointer (some ⟨g, 0, none⟩), .pointer (some ⟨g, 37, none⟩), .int .i64 now, undef, undef, undef, undef, undef, undef, undef], defers := [] }) (by kernel_rfl) ?_
  refine q_val (by kernel_rfl) (.pointer (some ⟨g, 0, none⟩)) (fun x hx => by kernel_rfl) ?_
  refine q_frame (a' := { tmps := #[.pointer (some ⟨g, 0, none⟩), undef, .int .i64 0, .pointer (some ⟨g, 0, none⟩), .pointer (some ⟨g, 0, none⟩), .pointer (some ⟨g, 37, none⟩), .int .i64 now, .pointer (some ⟨g, 0, none⟩), undef, undef, undef, undef, undef, undef], defers := [] }) (by kernel_rfl) ?_
  refine q_val (by kernel_rfl) (.pointer (some ⟨g, 0, none⟩)) (fun x hx => by kernel_rfl) ?_
  refine q_frame (a' := { tmps := #[.pointer (some ⟨g, 0, none⟩), undef, .int .i64 0, .pointer (some ⟨g, 0, none⟩), .pointer (some ⟨g, 0, none⟩), .pointer (some ⟨g, 37, none⟩), .int .i64 now, .pointer (some ⟨g, 0, none⟩), .pointer (some ⟨g, 0, none⟩), undef, undef, undef, undef, undef], defers := [] }) (by kernel_rfl) ?_
  refine q_val (by kernel_rfl) (.pointer (some ⟨g, 0, none⟩)) (fun x hx => by kernel_rfl) ?_
  refine q_frame (a' := { tmps := #[.pointer (some ⟨g, 0, none⟩), undef, .int .i64 0, .pointer (some ⟨g, 0, none⟩), .pointer (some ⟨g, 0, none⟩), .pointer (some ⟨g, 37, none⟩), .int .i64 now, .pointer (some ⟨g, 0, none⟩), .pointer (some ⟨g, 0, none⟩), .pointer (some ⟨g, 0, none⟩), undef, undef, undef, undef], defers := [] }) (by kernel_rfl) ?_
  refine q_val (by kernel_rfl) (.pointer (some ⟨g, 19, none⟩)) (fun x hx => by kernel_rfl) ?_
  refine q_frame (a' := { tmps := #[.pointer (some ⟨g, 0, none⟩), undef, .int .i64 0, .pointer (some ⟨g, 0, none⟩), .pointer (some ⟨g, 0, none⟩), .pointer (some ⟨g, 37, none⟩), .int .i64 now, .pointer (some ⟨g, 0, none⟩), .pointer (some ⟨g, 0, none⟩), .pointer (some ⟨g, 0, none⟩), .pointer (some ⟨g, 19, none⟩), undef, undef, undef], defers := [] }) (by kernel_rfl) ?_
  refine q_part A (by kernel_rfl) pRtt_big _ rfl 19 rfl [.bool d.rA, .int .i64 d.rS, .int .i64 d.rV, .int .i64 d.rD] rfl (fun j v hj => by match j, hj with | 0, h => exact h | 1, h => exact h | 2, h => exact h | 3, h => exact h | n + 4, h => exact absurd h (by simp)) ?_
  refine q_frame (a' := { tmps := #[.pointer (some ⟨g, 0, none⟩), undef, .int .i64 0, .pointer (some ⟨g, 0, none⟩), .pointer (some ⟨g, 0, none⟩), .pointer (some ⟨g, 37, none⟩), .int .i64 now, .pointer (some ⟨g, 0, none⟩), .pointer (some ⟨g, 0, none⟩), .pointer (some ⟨g, 0, none⟩), .pointer (some ⟨g, 19, none⟩), .agg #[.bool d.rA, .int .i64 d.rS, .int .i64 d.rV, .int .i64 d.rD], undef, undef], defers := [] }) (by kernel_rfl) ?_
  refine q_call (by kernel_rfl) 119 #[.agg #[.bool d.rA, .int .i64 d.rS, .int .i64 d.rV, .int .i64 d.rD]] (.int .i64 wt) (fun x => by kernel_rfl) (fun x hx => hw x) ?_
  refine q_frame (a' := { tmps := #[.pointer (some ⟨g, 0, none⟩), undef, .int .i64 0, .pointer (some ⟨g, 0, none⟩), .pointer (some ⟨g, 0, none⟩), .pointer (some ⟨g, 37, none⟩), .int .i64 now, .pointer (some ⟨g, 0, none⟩), .pointer (some ⟨g, 0, none⟩), .pointer (some ⟨g, 0, none⟩), .pointer (some ⟨g, 19, none⟩), .agg #[.bool d.rA, .int .i64 d.rS, .int .i64 d.rV, .int .i64 d.rD], .int .i64 wt, undef], defers := [] }) (by kernel_rfl) ?_
  refine q_val (by kernel_rfl) (.int .i64 (now + wt)) (fun x hx => by rw [← hs.out]; kernel_rfl) ?_
  refine q_frame (a' := { tmps := #[.pointer (some ⟨g, 0, none⟩), undef, .int .i64 0, .pointer (some ⟨g, 0, none⟩), .pointer (some ⟨g, 0, none⟩), .pointer (some ⟨g, 37, none⟩), .int .i64 now, .pointer (some ⟨g, 0, none⟩), .pointer (some ⟨g, 0, none⟩), .pointer (some ⟨g, 0, none⟩), .pointer (some ⟨g, 19, none⟩), .agg #[.bool d.rA, .int .i64 d.rS, .int .i64 d.rV, .int .i64 d.rD], .int .i64 wt, .int .i64 (now + wt)], defers := [] }) (by kernel_rfl) ?_
  refine q_val (by kernel_rfl) (.int .i64 (now + wt)) (fun x hx => by kernel_rfl) ?_
  refine q_frame (a' := { tmps := #[.pointer (some ⟨g, 0, none⟩), undef, .int .i64 (now + wt), .pointer (some ⟨g, 0, none⟩), .pointer (some ⟨g, 0, none⟩), .pointer (some ⟨g, 37, none⟩), .int .i64 now, .pointer (some ⟨g, 0, none⟩), .pointer (some ⟨g, 0, none⟩), .pointer (some ⟨g, 0, none⟩), .pointer (some ⟨g, 19, none⟩), .agg #[.bool d.rA, .int .i64 d.rS, .int .i64 d.rV, .int .i64 d.rD], .int .i64 wt, .int .i64 (now + wt)], defers := [] }) (by kernel_rfl) ?_
  refine q_nil ?_
  intro qw1 qh2
  replace A := A.since qh2
  replace G := G.trans qh2
  have qh2_s := qh2.size
  go_wp2_with (fail)
  go_ret
  exact ⟨rfl, G⟩

set_option maxRecDepth 20000 in
set_option maxHeartbeats 8000000 in
theorem implMoveOn (B g pg : Nat) (now : Int) (ps : List (Int × ByteArray)) (d : Cn) (gs n cap : Nat) (xs : List Sg) (k : Int) (hm : IsWord d.mx) (h0 : 0 ≤ now) (h1 : now ≤ 1000000000) (w : World) (a : Acts B g pg now ps d gs n cap xs w) :
    Calls Tryz.prog 96 #[.pointer (some ⟨g, 0, none⟩), .int .i64 k] w fun e w' => e = .returned (.tuple #[]) ∧ ActsX B g pg now ps (wentC d k now) (xs) w' ∧ Base B w w' := by
  obtain ⟨A, L, P, pa, lo, i, j, l⟩ := a
  have hA := A.lt
  have hL := L.lt
  have hLo := L.low'
  have hP := P.lt
  have hPo := P.low'
  have G : Base B w w := Base.refl (by omega)
  have hwd := fun wx => implWord k (k % 4294967296) ⟨by omega, by omega, by omega⟩ wx
  have hmx := fun wx => implMax d.mx (nxtN d k) _ hm (isWord_mod _) (distI_is _ _) wx
  obtain ⟨mv, hmv⟩ : ∃ q, Hid (q = mxN d k) := ⟨_, rfl⟩
  have hme := hmv.out
  unfold mxN at hme
  rw [← hme] at hmx
  clear hme
  obtain ⟨nx, hnx⟩ : ∃ q, Hid (q = nxtN d k) := ⟨_, rfl⟩
  rw [← hnx.out] at hmx
  have hwr : Hid (IntKind.u32.wrap (d.nxt + k % 4294967296) = nx) := hnx.out.symm
  obtain ⟨b, hbb⟩ : ∃ q, Hid (q = (d.agn == 0)) := ⟨_, rfl⟩
  have ew : Hid (wentC d k now = { d with nxt := nx, mx := mv, agn := if d.agn = 0 then now + waitOf d.rA d.rS d.rV d.rD else d.agn, owe := false }) := by
    show _ = _
    rw [hnx.out, hmv.out]
    rfl
  go_enter Tryz.func96, Tryz.ntmps96
  go_upto_region 1 with (fail)
  refine wp_region_tail (wb := w) 9 (fun i x v => match i with
      | 0 => v = .pointer (some ⟨g, 0, none⟩)
      | 1 => v = .pointer (some ⟨g, 0, none⟩)
      | 2 => v = .pointer (some ⟨g, 3, none⟩)
      | 3 => v = .int .u32 d.nxt
      | 4 => v = .int .i64 k
      | 5 => v = .int .u32 (k % 4294967296)
      | 6 => v = .int .u32 nx
      | 7 => v = .pointer (some ⟨g, 0, none⟩)
      | 8 => v = .pointer (some ⟨g, 3, none⟩)
      | _ => True) (fun v => { tmps := #[.pointer (some ⟨g, 0, none⟩), .int .i64 k, undef, undef, .pointer (some ⟨g, 0, none⟩), .pointer (some ⟨g, 0, none⟩), .pointer (some ⟨g, 0, none⟩), .pointer (some ⟨g, 0, none⟩), v 0, v 1, v 2, v 3, v 4, v 5, v 6, v 7, v 8, undef, undef, undef, undef, undef, undef, undef, undef, undef, undef, undef, undef, undef, undef, undef, undef, undef, undef, undef, undef, undef, undef, undef, undef, undef], defers := [] }) (by kernel_rfl) (by kernel_rfl) (by kernel_rfl) (Since.refl _) ?_ (fun vals => by kernel_rfl) ?_ ?_
  case refine_1 =>
    intro j x x' v h1 h2
    match j, h2 with
    | 0, h2 | 1, h2 | 2, h2 | 3, h2 | 4, h2 | 5, h2 | 6, h2 | 7, h2 | 8, h2 => exact h2
    | n + 9, _ => trivial
  case refine_2 =>
    repeat (first | exact eachDoes_nil | refine eachDoes_cons ?_ ?_)
    all_goals intro vals x hx hv
    all_goals simp [Region.binds] at hv
    · simp [does, doesUpon, go_sem, hv, Since.refl]
    · simp [does, doesUpon, go_sem, hv, Since.refl]
    · simp [does, doesUpon, go_sem, hv, Since.refl, hwr.out]
    · simp [does, doesUpon, go_sem, hv]
      refine (hwd _).mono ?_
      rintro _ x' ⟨rfl, rfl⟩
      simp [Since.refl]
    · simp [does, doesUpon, go_sem, Since.refl]
    · have fl0 : x.cell? ⟨g, 3, none⟩ = some (.int .u32 d.nxt) := (A.since hx).cell 3
      simp [does, doesUpon, go_sem, hv, fl0, Since.refl]
    · simp [does, doesUpon, go_sem, hv, Since.refl]
    · simp [does, doesUpon, go_sem, hv, Since.refl]
    · simp [does, doesUpon, go_sem, Since.refl]
  case refine_3 =>
    intro qv3 qw1 qh2 hv
    have hv0 : qv3 0 = _ := hv 0 (by decide)
    have hv1 : qv3 1 = _ := hv 1 (by decide)
    have hv2 : qv3 2 = _ := hv 2 (by decide)
    have hv3 : qv3 3 = _ := hv 3 (by decide)
    have hv4 : qv3 4 = _ := hv 4 (by decide)
    have hv5 : qv3 5 = _ := hv 5 (by decide)
    have hv6 : qv3 6 = _ := hv 6 (by decide)
    have hv7 : qv3 7 = _ := hv 7 (by decide)
    have hv8 : qv3 8 = _ := hv 8 (by decide)
    clear hv
    simp only [hv0, hv1, hv2, hv3, hv4, hv5, hv6, hv7, hv8, List.drop]
    clear hv0 hv1 hv2 hv3 hv4 hv5 hv6 hv7 hv8
    replace A := A.since qh2
    replace L := L.since qh2
    replace P := P.since qh2
    replace G := G.trans qh2
    have qh2_s := qh2.size
    refine store_cell (cs' := actCells { d with nxt := nx } now (.slice (some ⟨gs, 0, none⟩) n cap)) A rfl _ _ _ rfl 3 rfl (.int .u32 nx) rfl rfl (by kernel_rfl) (by rw [act_size]; decide) rfl ?_
    intro qw4 qt5 qB6
    clear A
    replace L := L.touch qt5 (by omega)
    replace P := P.touch qt5 (by omega)
    replace G := G.touch qt5 (by omega)
    have qt5_s := qt5.size
    refine wpList_frame (a' := { tmps := #[.pointer (some ⟨g, 0, none⟩), .int .i64 k, undef, undef, .pointer (some ⟨g, 0, none⟩), .pointer (some ⟨g, 0, none⟩), .pointer (some ⟨g, 0, none⟩), .pointer (some ⟨g, 0, none⟩), .pointer (some ⟨g, 0, none⟩), .pointer (some ⟨g, 0, none⟩), .pointer (some ⟨g, 3, none⟩), .int .u32 d.nxt, .int .i64 k, .int .u32 (k % 4294967296), .int .u32 nx, .pointer (some ⟨g, 0, none⟩), .pointer (some ⟨g, 3, none⟩), undef, undef, undef, undef, undef, undef, undef, undef, undef, undef, undef, undef, undef, undef, undef, undef, undef, undef, undef, undef, undef, undef, undef, undef, undef], defers := [] }) (by kernel_rfl) ?_
    go_upto_region 2 with (fail)
    refine wp_region_tail (wb := qw4) 12 (fun i x v => match i with
        | 0 => v = .pointer (some ⟨g, 0, none⟩)
        | 1 => v = .pointer (some ⟨g, 0, none⟩)
        | 2 => v = .pointer (some ⟨g, 0, none⟩)
        | 3 => v = .pointer (some ⟨g, 4, none⟩)
        | 4 => v = .int .u32 d.mx
        | 5 => v = .pointer (some ⟨g, 0, none⟩)
        | 6 => v = .pointer (some ⟨g, 0, none⟩)
        | 7 => v = .pointer (some ⟨g, 3, none⟩)
        | 8 => v = .int .u32 nx
        | 9 => v = .int .u32 mv
        | 10 => v = .pointer (some ⟨g, 0, none⟩)
        | 11 => v = .pointer (some ⟨g, 4, none⟩)
        | _ => True) (fun v => { tmps := #[.pointer (some ⟨g, 0, none⟩), .int .i64 k, undef, undef, .pointer (some ⟨g, 0, none⟩), .pointer (some ⟨g, 0, none⟩), .pointer (some ⟨g, 0, none⟩), .pointer (some ⟨g, 0, none⟩), .pointer (some ⟨g, 0, none⟩), .pointer (some ⟨g, 0, none⟩), .pointer (some ⟨g, 3, none⟩), .int .u32 d.nxt, .int .i64 k, .int .u32 (k % 4294967296), .int .u32 nx, .pointer (some ⟨g, 0, none⟩), .pointer (some ⟨g, 3, none⟩), v 0, v 1, v 2, v 3, v 4, v 5, v 6, v 7, v 8, v 9, v 10, v 11, undef, undef, undef, undef, undef, undef, undef, undef, undef, undef, undef, undef, undef], defers := [] }) (by kernel_rfl) (by kernel_rfl) (by kernel_rfl) (Since.refl _) ?_ (fun vals => by kernel_rfl) ?_ ?_
    case refine_1 =>
      intro j x x' v h1 h2
      match j, h2 with
      | 0, h2 | 1, h2 | 2, h2 | 3, h2 | 4, h2 | 5, h2 | 6, h2 | 7, h2 | 8, h2 | 9, h2 | 10, h2 | 11, h2 => exact h2
      | n + 12, _ => trivial
    case refine_2 =>
      repeat (first | exact eachDoes_nil | refine eachDoes_cons ?_ ?_)
      all_goals intro vals x hx hv
      all_goals simp [Region.binds] at hv
      · simp [does, doesUpon, go_sem, hv, Since.refl]
      · simp [does, doesUpon, go_sem, hv, Since.refl]
      · simp [does, doesUpon, go_sem, hv]
        refine (hmx _).mono ?_
        rintro _ x' ⟨rfl, rfl⟩
        simp [Since.refl]
      · have fl0 : x.cell? ⟨g, 3, none⟩ = some (.int .u32 nx) := (qB6.since hx).cell 3
        simp [does, doesUpon, go_sem, hv, fl0, Since.refl]
      · simp [does, doesUpon, go_sem, hv, Since.refl]
      · simp [does, doesUpon, go_sem, hv, Since.refl]
      · simp [does, doesUpon, go_sem, Since.refl]
      · have fl0 : x.cell? ⟨g, 4, none⟩ = some (.int .u32 d.mx) := (qB6.since hx).cell 4
        simp [does, doesUpon, go_sem, hv, fl0, Since.refl]
      · simp [does, doesUpon, go_sem, hv, Since.refl]
      · simp [does, doesUpon, go_sem, hv, Since.refl]
      · simp [does, doesUpon, go_sem, Since.refl]
      · simp [does, doesUpon, go_sem, Since.refl]
    case refine_3 =>
      intro qv9 qw7 qh8 hv
      have hv0 : qv9 0 = _ := hv 0 (by decide)
      have hv1 : qv9 1 = _ := hv 1 (by decide)
      have hv2 : qv9 2 = _ := hv 2 (by decide)
      have hv3 : qv9 3 = _ := hv 3 (by decide)
      have hv4 : qv9 4 = _ := hv 4 (by decide)
      have hv5 : qv9 5 = _ := hv 5 (by decide)
      have hv6 : qv9 6 = _ := hv 6 (by decide)
      have hv7 : qv9 7 = _ := hv 7 (by decide)
      have hv8 : qv9 8 = _ := hv 8 (by decide)
      have hv9 : qv9 9 = _ := hv 9 (by decide)
      have hv10 : qv9 10 = _ := hv 10 (by decide)
      have hv11 : qv9 11 = _ := hv 11 (by decide)
      clear hv
      simp only [hv0, hv1, hv2, hv3, hv4, hv5, hv6, hv7, hv8, hv9, hv10, hv11, List.drop]
      clear hv0 hv1 hv2 hv3 hv4 hv5 hv6 hv7 hv8 hv9 hv10 hv11
      replace qB6 := qB6.since qh8
      replace L := L.since qh8
      replace P := P.since qh8
      replace G := G.trans qh8
      have qh8_s := qh8.size
      refine store_cell (cs' := actCells { d with nxt := nx, mx := mv } now (.slice (some ⟨gs, 0, none⟩) n cap)) qB6 rfl _ _ _ rfl 4 rfl (.int .u32 mv) rfl rfl (by kernel_rfl) (by rw [act_size]; decide) rfl ?_
      intro qw10 qt11 qB12
      clear qB6
      replace L := L.touch qt11 (by omega)
      replace P := P.touch qt11 (by omega)
      replace G := G.touch qt11 (by omega)
      have qt11_s := qt11.size
      refine wpList_frame (a' := { tmps := #[.pointer (some ⟨g, 0, none⟩), .int .i64 k, undef, undef, .pointer (some ⟨g, 0, none⟩), .pointer (some ⟨g, 0, none⟩), .pointer (some ⟨g, 0, none⟩), .pointer (some ⟨g, 0, none⟩), .pointer (some ⟨g, 0, none⟩), .pointer (some ⟨g, 0, none⟩), .pointer (some ⟨g, 3, none⟩), .int .u32 d.nxt, .int .i64 k, .int .u32 (k % 4294967296), .int .u32 nx, .pointer (some ⟨g, 0, none⟩), .pointer (some ⟨g, 3, none⟩), .pointer (some ⟨g, 0, none⟩), .pointer (some ⟨g, 0, none⟩), .pointer (some ⟨g, 0, none⟩), .pointer (some ⟨g, 4, none⟩), .int .u32 d.mx, .pointer (some ⟨g, 0, none⟩), .pointer (some ⟨g, 0, none⟩), .pointer (some ⟨g, 3, none⟩), .int .u32 nx, .int .u32 mv, .pointer (some ⟨g, 0, none⟩), .pointer (some ⟨g, 4, none⟩), undef, undef, undef, undef, undef, undef, undef, undef, undef, undef, undef, undef, undef], defers := [] }) (by kernel_rfl) ?_
      go_upto_region 3 with (fail)
      refine wp_region_lit ?_
      refine move_step rfl _ rfl ?_
      refine step_val (w' := qw10) rfl (.pointer (some ⟨g, 0, none⟩)) (by kernel_rfl) ?_
      refine wpList_frame (a' := { tmps := #[.pointer (some ⟨g, 0, none⟩), .int .i64 k, undef, undef, .pointer (some ⟨g, 0, none⟩), .pointer (some ⟨g, 0, none⟩), .pointer (some ⟨g, 0, none⟩), .pointer (some ⟨g, 0, none⟩), .pointer (some ⟨g, 0, none⟩), .pointer (some ⟨g, 0, none⟩), .pointer (some ⟨g, 3, none⟩), .int .u32 d.nxt, .int .i64 k, .int .u32 (k % 4294967296), .int .u32 nx, .pointer (some ⟨g, 0, none⟩), .pointer (some ⟨g, 3, none⟩), .pointer (some ⟨g, 0, none⟩), .pointer (some ⟨g, 0, none⟩), .pointer (some ⟨g, 0, none⟩), .pointer (some ⟨g, 4, none⟩), .int .u32 d.mx, .pointer (some ⟨g, 0, none⟩), .pointer (some ⟨g, 0, none⟩), .pointer (some ⟨g, 3, none⟩), .int .u32 nx, .int .u32 mv, .pointer (some ⟨g, 0, none⟩), .pointer (some ⟨g, 4, none⟩), .pointer (some ⟨g, 0, none⟩), .pointer (some ⟨g, 0, none⟩), undef, undef, undef, undef, undef, undef, undef, undef, undef, undef, undef], defers := [] }) (by kernel_rfl) ?_
      refine step_val (w' := qw10) rfl (.pointer (some ⟨g, 31, none⟩)) (by kernel_rfl) ?_
      refine wpList_frame (a' := { tmps := #[.pointer (some ⟨g, 0, none⟩), .int .i64 k, undef, undef, .pointer (some ⟨g, 0, none⟩), .pointer (some ⟨g, 0, none⟩), .pointer (some ⟨g, 0, none⟩), .pointer (some ⟨g, 0, none⟩), .pointer (some ⟨g, 0, none⟩), .pointer (some ⟨g, 0, none⟩), .pointer (some ⟨g, 3, none⟩), .int .u32 d.nxt, .int .i64 k, .int .u32 (k % 4294967296), .int .u32 nx, .pointer (some ⟨g, 0, none⟩), .pointer (some ⟨g, 3, none⟩), .pointer (some ⟨g, 0, none⟩), .pointer (some ⟨g, 0, none⟩), .pointer (some ⟨g, 0, none⟩), .pointer (some ⟨g, 4, none⟩), .int .u32 d.mx, .pointer (some ⟨g, 0, none⟩), .pointer (some ⟨g, 0, none⟩), .pointer (some ⟨g, 3, none⟩), .int .u32 nx, .int .u32 mv, .pointer (some ⟨g, 0, none⟩), .pointer (some ⟨g, 4, none⟩), .pointer (some ⟨g, 0, none⟩), .pointer (some ⟨g, 0, none⟩), .pointer (some ⟨g, 31, none⟩), undef, undef, undef, undef, undef, undef, undef, undef, undef, undef], defers := [] }) (by kernel_rfl) ?_
      refine load_cell rfl _ _ rfl _ rfl (.int .i64 d.agn) (show qw10.cell? ⟨g, 31, none⟩ = some (.int .i64 d.agn) from qB12.cell 31) (by kernel_rfl) ?_
      refine step_val (w' := qw10) rfl (.bool b) (by rw [hbb.out]; kernel_rfl) ?_
      refine wpList_frame (a' := { tmps := #[.pointer (some ⟨g, 0, none⟩), .int .i64 k, undef, undef, .pointer (some ⟨g, 0, none⟩), .pointer (some ⟨g, 0, none⟩), .pointer (some ⟨g, 0, none⟩), .pointer (some ⟨g, 0, none⟩), .pointer (some ⟨g, 0, none⟩), .pointer (some ⟨g, 0, none⟩), .pointer (some ⟨g, 3, none⟩), .int .u32 d.nxt, .int .i64 k, .int .u32 (k % 4294967296), .int .u32 nx, .pointer (some ⟨g, 0, none⟩), .pointer (some ⟨g, 3, none⟩), .pointer (some ⟨g, 0, none⟩), .pointer (some ⟨g, 0, none⟩), .pointer (some ⟨g, 0, none⟩), .pointer (some ⟨g, 4, none⟩), .int .u32 d.mx, .pointer (some ⟨g, 0, none⟩), .pointer (some ⟨g, 0, none⟩), .pointer (some ⟨g, 3, none⟩), .int .u32 nx, .int .u32 mv, .pointer (some ⟨g, 0, none⟩), .pointer (some ⟨g, 4, none⟩), .pointer (some ⟨g, 0, none⟩), .pointer (some ⟨g, 0, none⟩), .pointer (some ⟨g, 31, none⟩), .int .i64 d.agn, .bool b, undef, undef, undef, undef, undef, undef, undef, undef], defers := [] }) (by kernel_rfl) ?_
      cases b
      case false =>
        have ea : Hid (wentC d k now = { d with nxt := nx, mx := mv, agn := d.agn, owe := false }) := by
          show _ = _
          have := hbb.out
          rw [ew.out, if_neg (by simpa using this.symm)]
        go_upto_region 5 with (fail)
        refine wp_region_lit ?_
        refine move_step rfl _ rfl ?_
        refine step_val (w' := qw10) rfl (.pointer (some ⟨g, 0, none⟩)) (by kernel_rfl) ?_
        refine wpList_frame (a' := { tmps := #[.pointer (some ⟨g, 0, none⟩), .int .i64 k, undef, undef, .pointer (some ⟨g, 0, none⟩), .pointer (some ⟨g, 0, none⟩), .pointer (some ⟨g, 0, none⟩), .pointer (some ⟨g, 0, none⟩), .pointer (some ⟨g, 0, none⟩), .pointer (some ⟨g, 0, none⟩), .pointer (some ⟨g, 3, none⟩), .int .u32 d.nxt, .int .i64 k, .int .u32 (k % 4294967296), .int .u32 nx, .pointer (some ⟨g, 0, none⟩), .pointer (some ⟨g, 3, none⟩), .pointer (some ⟨g, 0, none⟩), .pointer (some ⟨g, 0, none⟩), .pointer (some ⟨g, 0, none⟩), .pointer (some ⟨g, 4, none⟩), .int .u32 d.mx, .pointer (some ⟨g, 0, none⟩), .pointer (some ⟨g, 0, none⟩), .pointer (some ⟨g, 3, none⟩), .int .u32 nx, .int .u32 mv, .pointer (some ⟨g, 0, none⟩), .pointer (some ⟨g, 4, none⟩), .pointer (some ⟨g, 0, none⟩), .pointer (some ⟨g, 0, none⟩), .pointer (some ⟨g, 31, none⟩), .int .i64 d.agn, .bool false, undef, undef, undef, undef, undef, .pointer (some ⟨g, 0, none⟩), .pointer (some ⟨g, 0, none⟩), undef], defers := [] }) (by kernel_rfl) ?_
        refine step_val (w' := qw10) rfl (.pointer (some ⟨g, 36, none⟩)) (by kernel_rfl) ?_
        refine wpList_frame (a' := { tmps := #[.pointer (some ⟨g, 0, none⟩), .int .i64 k, undef, undef, .pointer (some ⟨g, 0, none⟩), .pointer (some ⟨g, 0, none⟩), .pointer (some ⟨g, 0, none⟩), .pointer (some ⟨g, 0, none⟩), .pointer (some ⟨g, 0, none⟩), .pointer (some ⟨g, 0, none⟩), .pointer (some ⟨g, 3, none⟩), .int .u32 d.nxt, .int .i64 k, .int .u32 (k % 4294967296), .int .u32 nx, .pointer (some ⟨g, 0, none⟩), .pointer (some ⟨g, 3, none⟩), .pointer (some ⟨g, 0, none⟩), .pointer (some ⟨g, 0, none⟩), .pointer (some ⟨g, 0, none⟩), .pointer (some ⟨g, 4, none⟩), .int .u32 d.mx, .pointer (some ⟨g, 0, none⟩), .pointer (some ⟨g, 0, none⟩), .pointer (some ⟨g, 3, none⟩), .int .u32 nx, .int .u32 mv, .pointer (some ⟨g, 0, none⟩), .pointer (some ⟨g, 4, none⟩), .pointer (some ⟨g, 0, none⟩), .pointer (some ⟨g, 0, none⟩), .pointer (some ⟨g, 31, none⟩), .int .i64 d.agn, .bool false, undef, undef, undef, undef, undef, .pointer (some ⟨g, 0, none⟩), .pointer (some ⟨g, 0, none⟩), .pointer (some ⟨g, 36, none⟩)], defers := [] }) (by kernel_rfl) ?_
        refine store_cell (cs' := actCells { d with nxt := nx, mx := mv, owe := false } now (.slice (some ⟨gs, 0, none⟩) n cap)) qB12 rfl _ _ _ rfl 36 rfl (.bool false) rfl rfl (by kernel_rfl) (by rw [act_size]; decide) rfl ?_
        intro qw13 qt14 qB15
        clear qB12
        replace L := L.touch qt14 (by omega)
        replace P := P.touch qt14 (by omega)
        replace G := G.touch qt14 (by omega)
        have qt14_s := qt14.size
        refine wpList_frame (a' := { tmps := #[.pointer (some ⟨g, 0, none⟩), .int .i64 k, undef, undef, .pointer (some ⟨g, 0, none⟩), .pointer (some ⟨g, 0, none⟩), .pointer (some ⟨g, 0, none⟩), .pointer (some ⟨g, 0, none⟩), .pointer (some ⟨g, 0, none⟩), .pointer (some ⟨g, 0, none⟩), .pointer (some ⟨g, 3, none⟩), .int .u32 d.nxt, .int .i64 k, .int .u32 (k % 4294967296), .int .u32 nx, .pointer (some ⟨g, 0, none⟩), .pointer (some ⟨g, 3, none⟩), .pointer (some ⟨g, 0, none⟩), .pointer (some ⟨g, 0, none⟩), .pointer (some ⟨g, 0, none⟩), .pointer (some ⟨g, 4, none⟩), .int .u32 d.mx, .pointer (some ⟨g, 0, none⟩), .pointer (some ⟨g, 0, none⟩), .pointer (some ⟨g, 3, none⟩), .int .u32 nx, .int .u32 mv, .pointer (some ⟨g, 0, none⟩), .pointer (some ⟨g, 4, none⟩), .pointer (some ⟨g, 0, none⟩), .pointer (some ⟨g, 0, none⟩), .pointer (some ⟨g, 31, none⟩), .int .i64 d.agn, .bool false, undef, undef, undef, undef, undef, .pointer (some ⟨g, 0, none⟩), .pointer (some ⟨g, 0, none⟩), .pointer (some ⟨g, 36, none⟩)], defers := [] }) (by kernel_rfl) ?_
        go_wp2_with (fail)
        refine bodyPost_end (v := .tuple #[]) (results_none rfl _ _ _) rfl ⟨rfl, ?_, G⟩
        rw [ea.out]
        exact ⟨_, _, _, ⟨qB15, L, P, pa, lo, (by omega), (by omega), (by omega)⟩⟩
      case true =>
        have hfn := fun (dd : Cn) wx Ax => implFromNow g now dd (.slice (some ⟨gs, 0, none⟩) n cap) h0 h1 wx Ax
        have ea : Hid (wentC d k now = { d with nxt := nx, mx := mv, agn := now + waitOf d.rA d.rS d.rV d.rD, owe := false }) := by
          show _ = _
          have := hbb.out
          rw [ew.out, if_pos (by simpa using this.symm)]
        go_upto_region 4 with (fail)
        refine wp_region_lit ?_
        refine move_step rfl _ rfl ?_
        refine move_step rfl _ rfl ?_
        refine wpList_frame (a' := { tmps := #[.pointer (some ⟨g, 0, none⟩), .int .i64 k, undef, undef, .pointer (some ⟨g, 0, none⟩), .pointer (some ⟨g, 0, none⟩), .pointer (some ⟨g, 0, none⟩), .pointer (some ⟨g, 0, none⟩), .pointer (some ⟨g, 0, none⟩), .pointer (some ⟨g, 0, none⟩), .pointer (some ⟨g, 3, none⟩), .int .u32 d.nxt, .int .i64 k, .int .u32 (k % 4294967296), .int .u32 nx, .pointer (some ⟨g, 0, none⟩), .pointer (some ⟨g, 3, none⟩), .pointer (some ⟨g, 0, none⟩), .pointer (some ⟨g, 0, none⟩), .pointer (some ⟨g, 0, none⟩), .pointer (some ⟨g, 4, none⟩), .int .u32 d.mx, .pointer (some ⟨g, 0, none⟩), .pointer (some ⟨g, 0, none⟩), .pointer (some ⟨g, 3, none⟩), .int .u32 nx, .int .u32 mv, .pointer (some ⟨g, 0, none⟩), .pointer (some ⟨g, 4, none⟩), .pointer (some ⟨g, 0, none⟩), .pointer (some ⟨g, 0, none⟩), .pointer (some ⟨g, 31, none⟩), .int .i64 d.agn, .bool true, .pointer (some ⟨g, 0, none⟩), .pointer (some ⟨g, 0, none⟩), undef, undef, undef, undef, undef, undef], defers := [] }) (by kernel_rfl) ?_
        refine call_step rfl 98 #[.pointer (some ⟨g, 0, none⟩)] (by kernel_rfl) (hfn _ _ qB12) ?_
        rintro _ qw13 ⟨rfl, qg14⟩
        refine ⟨_, rfl, ?_⟩
        replace qB12 := qB12.since qg14
        replace L := L.since qg14
        replace P := P.since qg14
        replace G := G.trans qg14
        have qg14_s := qg14.size
        refine step_val (w' := qw13) rfl (.pointer (some ⟨g, 0, none⟩)) (by kernel_rfl) ?_
        refine wpList_frame (a' := { tmps := #[.pointer (some ⟨g, 0, none⟩), .int .i64 k, undef, undef, .pointer (some ⟨g, 0, none⟩), .pointer (some ⟨g, 0, none⟩), .pointer (some ⟨g, 0, none⟩), .pointer (some ⟨g, 0, none⟩), .pointer (some ⟨g, 0, none⟩), .pointer (some ⟨g, 0, none⟩), .pointer (some ⟨g, 3, none⟩), .int .u32 d.nxt, .int .i64 k, .int .u32 (k % 4294967296), .int .u32 nx, .pointer (some ⟨g, 0, none⟩), .pointer (some ⟨g, 3, none⟩), .pointer (some ⟨g, 0, none⟩), .pointer (some ⟨g, 0, none⟩), .pointer (some ⟨g, 0, none⟩), .pointer (some ⟨g, 4, none⟩), .int .u32 d.mx, .pointer (some ⟨g, 0, none⟩), .pointer (some ⟨g, 0, none⟩), .pointer (some ⟨g, 3, none⟩), .int .u32 nx, .int .u32 mv, .pointer (some ⟨g, 0, none⟩), .pointer (some ⟨g, 4, none⟩), .pointer (some ⟨g, 0, none⟩), .pointer (some ⟨g, 0, none⟩), .pointer (some ⟨g, 31, none⟩), .int .i64 d.agn, .bool true, .pointer (some ⟨g, 0, none⟩), .pointer (some ⟨g, 0, none⟩), .int .i64 (now + waitOf d.rA d.rS d.rV d.rD), .pointer (some ⟨g, 0, none⟩), undef, undef, undef, undef], defers := [] }) (by kernel_rfl) ?_
        refine step_val (w' := qw13) rfl (.pointer (some ⟨g, 31, none⟩)) (by kernel_rfl) ?_
        refine wpList_frame (a' := { tmps := #[.pointer (some ⟨g, 0, none⟩), .int .i64 k, undef, undef, .pointer (some ⟨g, 0, none⟩), .pointer (some ⟨g, 0, none⟩), .pointer (some ⟨g, 0, none⟩), .pointer (some ⟨g, 0, none⟩), .pointer (some ⟨g, 0, none⟩), .pointer (some ⟨g, 0, none⟩), .pointer (some ⟨g, 3, none⟩), .int .u32 d.nxt, .int .i64 k, .int .u32 (k % 4294967296), .int .u32 nx, .pointer (some ⟨g, 0, none⟩), .pointer (some ⟨g, 3, none⟩), .pointer (some ⟨g, 0, none⟩), .pointer (some ⟨g, 0, none⟩), .pointer (some ⟨g, 0, none⟩), .pointer (some ⟨g, 4, none⟩), .int .u32 d.mx, .pointer (some ⟨g, 0, none⟩), .pointer (some ⟨g, 0, none⟩), .pointer (some ⟨g, 3, none⟩), .int .u32 nx, .int .u32 mv, .pointer (some ⟨g, 0, none⟩), .pointer (some ⟨g, 4, none⟩), .pointer (some ⟨g, 0, none⟩), .pointer (some ⟨g, 0, none⟩), .pointer (some ⟨g, 31, none⟩), .int .i64 d.agn, .bool true, .pointer (some ⟨g, 0, none⟩), .pointer (some ⟨g, 0, none⟩), .int .i64 (now + waitOf d.rA d.rS d.rV d.rD), .pointer (some ⟨g, 0, none⟩), .pointer (some ⟨g, 31, none⟩), undef, undef, undef], defers := [] }) (by kernel_rfl) ?_
        refine store_cell (cs' := actCells { d with nxt := nx, mx := mv, agn := (now + waitOf d.rA d.rS d.rV d.rD) } now (.slice (some ⟨gs, 0, none⟩) n cap)) qB12 rfl _ _ _ rfl 31 rfl (.int .i64 (now + waitOf d.rA d.rS d.rV d.rD)) rfl rfl (by kernel_rfl) (by rw [act_size]; decide) rfl ?_
        intro qw15 qt16 qB17
        clear qB12
        replace L := L.touch qt16 (by omega)
        replace P := P.touch qt16 (by omega)
        replace G := G.touch qt16 (by omega)
        have qt16_s := qt16.size
        refine wpList_frame (a' := { tmps := #[.pointer (some ⟨g, 0, none⟩), .int .i64 k, undef, undef, .pointer (some ⟨g, 0, none⟩), .pointer (some ⟨g, 0, none⟩), .pointer (some ⟨g, 0, none⟩), .pointer (some ⟨g, 0, none⟩), .pointer (some ⟨g, 0, none⟩), .pointer (some ⟨g, 0, none⟩), .pointer (some ⟨g, 3, none⟩), .int .u32 d.nxt, .int .i64 k, .int .u32 (k % 4294967296), .int .u32 nx, .pointer (some ⟨g, 0, none⟩), .pointer (some ⟨g, 3, none⟩), .pointer (some ⟨g, 0, none⟩), .pointer (some ⟨g, 0, none⟩), .pointer (some ⟨g, 0, none⟩), .pointer (some ⟨g, 4, none⟩), .int .u32 d.mx, .pointer (some ⟨g, 0, none⟩), .pointer (some ⟨g, 0, none⟩), .pointer (some ⟨g, 3, none⟩), .int .u32 nx, .int .u32 mv, .pointer (some ⟨g, 0, none⟩), .pointer (some ⟨g, 4, none⟩), .pointer (some ⟨g, 0, none⟩), .pointer (some ⟨g, 0, none⟩), .pointer (some ⟨g, 31, none⟩), .int .i64 d.agn, .bool true, .pointer (some ⟨g, 0, none⟩), .pointer (some ⟨g, 0, none⟩), .int .i64 (now + waitOf d.rA d.rS d.rV d.rD), .pointer (some ⟨g, 0, none⟩), .pointer (some ⟨g, 31, none⟩), undef, undef, undef], defers := [] }) (by kernel_rfl) ?_
        go_upto_region 5 with (fail)
        refine wp_region_lit ?_
        refine move_step rfl _ rfl ?_
        refine step_val (w' := qw15) rfl (.pointer (some ⟨g, 0, none⟩)) (by kernel_rfl) ?_
        refine wpList_frame (a' := { tmps := #[.pointer (some ⟨g, 0, none⟩), .int .i64 k, undef, undef, .pointer (some ⟨g, 0, none⟩), .pointer (some ⟨g, 0, none⟩), .pointer (some ⟨g, 0, none⟩), .pointer (some ⟨g, 0, none⟩), .pointer (some ⟨g, 0, none⟩), .pointer (some ⟨g, 0, none⟩), .pointer (some ⟨g, 3, none⟩), .int .u32 d.nxt, .int .i64 k, .int .u32 (k % 4294967296), .int .u32 nx, .pointer (some ⟨g, 0, none⟩), .pointer (some ⟨g, 3, none⟩), .pointer (some ⟨g, 0, none⟩), .pointer (some ⟨g, 0, none⟩), .pointer (some ⟨g, 0, none⟩), .pointer (some ⟨g, 4, none⟩), .int .u32 d.mx, .pointer (some ⟨g, 0, none⟩), .pointer (some ⟨g, 0, none⟩), .pointer (some ⟨g, 3, none⟩), .int .u32 nx, .int .u32 mv, .pointer (some ⟨g, 0, none⟩), .pointer (some ⟨g, 4, none⟩), .pointer (some ⟨g, 0, none⟩), .pointer (some ⟨g, 0, none⟩), .pointer (some ⟨g, 31, none⟩), .int .i64 d.agn, .bool true, .pointer (some ⟨g, 0, none⟩), .pointer (some ⟨g, 0, none⟩), .int .i64 (now + waitOf d.rA d.rS d.rV d.rD), .pointer (some ⟨g, 0, none⟩), .pointer (some ⟨g, 31, none⟩), .pointer (some ⟨g, 0, none⟩), .pointer (some ⟨g, 0, none⟩), undef], defers := [] }) (by kernel_rfl) ?_
        refine step_val (w' := qw15) rfl (.pointer (some ⟨g, 36, none⟩)) (by kernel_rfl) ?_
        refine wpList_frame (a' := { tmps := #[.pointer (some ⟨g, 0, none⟩), .int .i64 k, undef, undef, .pointer (some ⟨g, 0, none⟩), .pointer (some ⟨g, 0, none⟩), .pointer (some ⟨g, 0, none⟩), .pointer (some ⟨g, 0, none⟩), .pointer (some ⟨g, 0, none⟩), .pointer (some ⟨g, 0, none⟩), .pointer (some ⟨g, 3, none⟩), .int .u32 d.nxt, .int .i64 k, .int .u32 (k % 4294967296), .int .u32 nx, .pointer (some ⟨g, 0, none⟩), .pointer (some ⟨g, 3, none⟩), .pointer (some ⟨g, 0, none⟩), .pointer (some ⟨g, 0, none⟩), .pointer (some ⟨g, 0, none⟩), .pointer (some ⟨g, 4, none⟩), .int .u32 d.mx, .pointer (some ⟨g, 0, none⟩), .pointer (some ⟨g, 0, none⟩), .pointer (some ⟨g, 3, none⟩), .int .u32 nx, .int .u32 mv, .pointer (some ⟨g, 0, none⟩), .pointer (some ⟨g, 4, none⟩), .pointer (some ⟨g, 0, none⟩), .pointer (some ⟨g, 0, none⟩), .pointer (some ⟨g, 31, none⟩), .int .i64 d.agn, .bool true, .pointer (some ⟨g, 0, none⟩), .pointer (some ⟨g, 0, none⟩), .int .i64 (now + waitOf d.rA d.rS d.rV d.rD), .pointer (some ⟨g, 0, none⟩), .pointer (some ⟨g, 31, none⟩), .pointer (some ⟨g, 0, none⟩), .pointer (some ⟨g, 0, none⟩), .pointer (some ⟨g, 36, none⟩)], defers := [] }) (by kernel_rfl) ?_
        refine store_cell (cs' := actCells { d with nxt := nx, mx := mv, agn := (now + waitOf d.rA d.rS d.rV d.rD), owe := false } now (.slice (some ⟨gs, 0, none⟩) n cap)) qB17 rfl _ _ _ rfl 36 rfl (.bool false) rfl rfl (by kernel_rfl) (by rw [act_size]; decide) rfl ?_
        intro qw18 qt19 qB20
        clear qB17
        replace L := L.touch qt19 (by omega)
        replace P := P.touch qt19 (by omega)
        replace G := G.touch qt19 (by omega)
        have qt19_s := qt19.size
        refine wpList_frame (a' := { tmps := #[.pointer (some ⟨g, 0, none⟩), .int .i64 k, undef, undef, .pointer (some ⟨g, 0, none⟩), .pointer (some ⟨g, 0, none⟩), .pointer (some ⟨g, 0, none⟩), .pointer (some ⟨g, 0, none⟩), .pointer (some ⟨g, 0, none⟩), .pointer (some ⟨g, 0, none⟩), .pointer (some ⟨g, 3, none⟩), .int .u32 d.nxt, .int .i64 k, .int .u32 (k % 4294967296), .int .u32 nx, .pointer (some ⟨g, 0, none⟩), .pointer (some ⟨g, 3, none⟩), .pointer (some ⟨g, 0, none⟩), .pointer (some ⟨g, 0, none⟩), .pointer (some ⟨g, 0, none⟩), .pointer (some ⟨g, 4, none⟩), .int .u32 d.mx, .pointer (some ⟨g, 0, none⟩), .pointer (some ⟨g, 0, none⟩), .pointer (some ⟨g, 3, none⟩), .int .u32 nx, .int .u32 mv, .pointer (some ⟨g, 0, none⟩), .pointer (some ⟨g, 4, none⟩), .pointer (some ⟨g, 0, none⟩), .pointer (some ⟨g, 0, none⟩), .pointer (some ⟨g, 31, none⟩), .int .i64 d.agn, .bool true, .pointer (some ⟨g, 0, none⟩), .pointer (some ⟨g, 0, none⟩), .int .i64 (now + waitOf d.rA d.rS d.rV d.rD), .pointer (some ⟨g, 0, none⟩), .pointer (some ⟨g, 31, none⟩), .pointer (some ⟨g, 0, none⟩), .pointer (some ⟨g, 0, none⟩), .pointer (some ⟨g, 36, none⟩)], defers := [] }) (by kernel_rfl) ?_
        go_wp2_with (fail)
        refine bodyPost_end (v := .tuple #[]) (results_none rfl _ _ _) rfl ⟨rfl, ?_, G⟩
        rw [ea.out]
        exact ⟨_, _, _, ⟨qB20, L, P, pa, lo, (by omega), (by omega), (by omega)⟩⟩
end Go.Proofs.YtlccnnoofbclcaaGreat
