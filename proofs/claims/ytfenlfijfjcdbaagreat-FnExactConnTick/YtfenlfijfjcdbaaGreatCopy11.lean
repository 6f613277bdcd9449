/-
  A copy of an end, and an end that is closed, as spec makes them.
-/
import Derived.Test.YtfenlfijfjcdbaaGreatM25
import Derived.Test.YtfenlfijfjcdbaaGreatM23
import Derived.Test.YtfenlfijfjcdbaaGreatM7
import Derived.Deep.DeepCutAuto
import Derived.Great.BuildSlice
namespace Go.Proofs.YtfenlfijfjcdbaaGreat
open Go.ChangeShapes Go.WideShapes Go.ChangeAt Go.RowKit
set_option linter.unusedVariables false
set_option maxRecDepth 10000

set_option maxRecDepth 20000 in
set_option maxHeartbeats 8000000 in
theorem specCopied (c : Cn) (ps : List (Int × ByteArray)) (gc : GoodC c ps) (hnil : c.pa = none → c.pc = 0) (w : World) (R : Rd shP w c.pa c.pn ps) :
    Calls Tryz.prog 16 #[cnVal c] w fun e w' => ∃ g cp, e = .returned (cnVal { c with pa := some ⟨g, 0, none⟩, pc := cp }) ∧ Held shP w' w.heap.size g c.pn cp ps ∧ Since w w' := by
  have hc := fun wx Rx => copyIn c.iN c.iD c.iR c.pa c.pn c.pc ps gc.gd.hn hnil wx Rx
  unfold inVal at hc
  unfold cnVal
  go_enter Tryz.func16, Tryz.ntmps16
  go_upto_region 1 with (fail)
  rw [cn_zero]
  have G := ((Since.refl w).alloc (.cells (cnCells c) 42)).alloc (.cells (cnCells cnZero) 42)
  have A := (Blk.new w (cnCells c) 42).since ((Since.refl _).alloc (.cells (cnCells cnZero) 42))
  have Z := Blk.new (w.alloc (.cells (cnCells c) 42)) (cnCells cnZero) 42
  rw [World.size_alloc] at Z
  replace R := R.since G
  generalize (w.alloc (.cells (cnCells c) 42)).alloc (.cells (cnCells cnZero) 42) = x0 at A Z G R ⊢
  have hZ := Z.lt
  refine wp_region_lit ?_
  refine step_val (w' := x0) rfl (.pointer (some ⟨w.heap.size, 11, none⟩)) (by kernel_rfl) ?_
  refine wpList_frame (a' := { tmps := #[.agg (cnCells c), .pointer (some ⟨w.heap.size, 0, none⟩), .pointer (some ⟨w.heap.size + 1, 0, none⟩), .pointer (some ⟨w.heap.size, 11, none⟩), undef, undef, undef, undef], defers := [] }) (by kernel_rfl) ?_
  refine load_part A rfl pIn_big _ rfl 11 rfl [.int .u32 c.iN, .string c.iD, .slice c.pa c.pn c.pc, .int .i64 c.iR] rfl (fun j v hj => by match j, hj with | 0, h => exact h | 1, h => exact h | 2, h => exact h | 3, h => exact h | n + 4, h => exact absurd h (by simp)) ?_
  refine call_step rfl 47 #[.agg #[.int .u32 c.iN, .string c.iD, .slice c.pa c.pn c.pc, .int .i64 c.iR]] (by kernel_rfl) (hc _ R) ?_
  rintro _ qw1 ⟨g, cp, rfl, H, qg2⟩
  refine ⟨_, rfl, ?_⟩
  replace A := A.since qg2
  replace Z := Z.since qg2
  replace R := R.since qg2
  replace G := G.trans qg2
  have qg2_s := qg2.size
  have hH0 := H.low'
  replace H := H.raise (show w.heap.size ≤ g by omega)
  have hH := H.lt
  clear R
  refine wpList_frame (a' := { tmps := #[.agg (cnCells c), .pointer (some ⟨w.heap.size, 0, none⟩), .pointer (some ⟨w.heap.size + 1, 0, none⟩), .pointer (some ⟨w.heap.size, 11, none⟩), .agg #[.int .u32 c.iN, .string c.iD, .slice c.pa c.pn c.pc, .int .i64 c.iR], .agg #[.int .u32 c.iN, .string c.iD, .slice (some ⟨g, 0, none⟩) c.pn cp, .int .i64 c.iR], undef, undef], defers := [] }) (by kernel_rfl) ?_
  refine step_val (w' := qw1) rfl (.pointer (some ⟨w.heap.size, 11, none⟩)) (by kernel_rfl) ?_
  refine wpList_frame (a' := { tmps := #[.agg (cnCells c), .pointer (some ⟨w.heap.size, 0, none⟩), .pointer (some ⟨w.heap.size + 1, 0, none⟩), .pointer (some ⟨w.heap.size, 11, none⟩), .agg #[.int .u32 c.iN, .string c.iD, .slice c.pa c.pn c.pc, .int .i64 c.iR], .agg #[.int .u32 c.iN, .string c.iD, .slice (some ⟨g, 0, none⟩) c.pn cp, .int .i64 c.iR], .pointer (some ⟨w.heap.size, 11, none⟩), undef], defers := [] }) (by kernel_rfl) ?_
  refine store_part (cs' := cnCells { c with iN := c.iN, iD := c.iD, pa := (some ⟨g, 0, none⟩), pn := c.pn, pc := cp, iR := c.iR }) A rfl pIn_big _ _ rfl 11 rfl #[.int .u32 c.iN, .string c.iD, .slice (some ⟨g, 0, none⟩) c.pn cp, .int .i64 c.iR] rfl rfl (by simp [Value.oneCell']) (by rw [cn_size]; decide) rfl ?_
  intro qw3 qt4 qB5
  clear A
  replace Z := Z.touch qt4 (by omega)
  replace H := H.touch qt4 (by omega)
  replace G := since_touch G qt4 (by omega)
  have qt4_s := qt4.size
  refine wpList_frame (a' := { tmps := #[.agg (cnCells c), .pointer (some ⟨w.heap.size, 0, none⟩), .pointer (some ⟨w.heap.size + 1, 0, none⟩), .pointer (some ⟨w.heap.size, 11, none⟩), .agg #[.int .u32 c.iN, .string c.iD, .slice c.pa c.pn c.pc, .int .i64 c.iR], .agg #[.int .u32 c.iN, .string c.iD, .slice (some ⟨g, 0, none⟩) c.pn cp, .int .i64 c.iR], .pointer (some ⟨w.heap.size, 11, none⟩), undef], defers := [] }) (by kernel_rfl) ?_
  go_upto_region 2 with (fail)
  refine wp_region_lit ?_
  refine load_big cn_big (cn_size _) qB5 rfl _ rfl rfl ?_
  refine wpList_frame (a' := { tmps := #[.agg (cnCells c), .pointer (some ⟨w.heap.size, 0, none⟩), .pointer (some ⟨w.heap.size + 1, 0, none⟩), .pointer (some ⟨w.heap.size, 11, none⟩), .agg #[.int .u32 c.iN, .string c.iD, .slice c.pa c.pn c.pc, .int .i64 c.iR], .agg #[.int .u32 c.iN, .string c.iD, .slice (some ⟨g, 0, none⟩) c.pn cp, .int .i64 c.iR], .pointer (some ⟨w.heap.size, 11, none⟩), .agg (cnCells { c with iN := c.iN, iD := c.iD, pa := (some ⟨g, 0, none⟩), pn := c.pn, pc := cp, iR := c.iR })], defers := [] }) (by kernel_rfl) ?_
  refine store_big cn_big (cn_size _) (cn_size _) (cn_one _) Z rfl _ _ rfl rfl rfl ?_
  intro qw6 qt7 qB8
  clear Z
  replace qB5 := qB5.touch qt7 (by omega)
  replace H := H.touch qt7 (by omega)
  replace G := since_touch G qt7 (by omega)
  have qt7_s := qt7.size
  refine wpList_frame (a' := { tmps := #[.agg (cnCells c), .pointer (some ⟨w.heap.size, 0, none⟩), .pointer (some ⟨w.heap.size + 1, 0, none⟩), .pointer (some ⟨w.heap.size, 11, none⟩), .agg #[.int .u32 c.iN, .string c.iD, .slice c.pa c.pn c.pc, .int .i64 c.iR], .agg #[.int .u32 c.iN, .string c.iD, .slice (some ⟨g, 0, none⟩) c.pn cp, .int .i64 c.iR], .pointer (some ⟨w.heap.size, 11, none⟩), .agg (cnCells { c with iN := c.iN, iD := c.iD, pa := (some ⟨g, 0, none⟩), pn := c.pn, pc := cp, iR := c.iR })], defers := [] }) (by kernel_rfl) ?_
  go_wp2_with (fail)
  exact bodyPost_ret (results_cn (t := 2) rfl _ rfl qB8) rfl ⟨_, _, rfl, H, G⟩

theorem specOkAt (c : Cn) (ps : List (Int × ByteArray)) (gc : GoodC c ps) (g cp : Nat) (wx : World) (Rx : Rd shP wx (some ⟨g, 0, none⟩) c.pn ps) : Calls Tryz.prog 17 #[.agg (cnCells { c with pa := some ⟨g, 0, none⟩, pc := cp })] wx fun e w' => e = .returned (.bool (connOk c ps)) ∧ Since wx w' :=
  specConnOk { c with pa := some ⟨g, 0, none⟩, pc := cp } ps ⟨gc.w_iss, gc.w_una, gc.w_nxt, gc.w_mx, gc.w_wsq, gc.w_wak, gc.w_oF, gc.w_fsq, gc.w_cR, gc.w_tsq, gc.hod, gc.gd⟩ wx Rx
end Go.Proofs.YtfenlfijfjcdbaaGreat
