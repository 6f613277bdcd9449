/-
  Proved: at every end impl.ConnClose answers as spec.ConnClose, writes into no argument, and its answer owns its memory (the law FnExactConnClose returns true, and its arguments read as before); no condition (of an end of more than 1048576 bytes the law asks nothing).
-/
import Derived.Test.YtlccnnoofbclcaaRows
import Derived.Test.YtlccnnoofbclcaaLaw11
import Derived.Test.YtlccnnoofbclcaaClose11I
import Derived.WalkKit
import Derived.ProofKit
import Derived.OpenShut
import Derived.ShutString
import Derived.ChangeOld
import Derived.Below
import Derived.Carry
namespace Go.Proofs.Ytlccnnoofbclcaa.fnExactConnClose
open Go.ChangeShapes Go.WideShapes Go.ChangeAt Go.RowKit
open Go.ChangeMaps (open_string shut_string)
set_option linter.unusedVariables false

theorem own : ownKnob Try.prog.godebug = none := by kernel_rfl
theorem laidOut : laidOutB Try.prog = true := by kernel_rfl

theorem connclose_pn (c : Cn) (ps : List (Int × ByteArray)) : (closeC c ps).pn = c.pn := by
  unfold closeC
  repeat' split
  all_goals rfl

theorem connclose_at (c : Cn) (ps : List (Int × ByteArray)) (a : Option Addr) (p : Nat) (a' : Option Addr) (p' : Nat) : ({ closeC { c with pa := a, pc := p } ps with pa := a', pc := p' } : Cn) = { closeC c ps with pa := a', pc := p' } := by
  change ({ (if (connOk c ps && mayW c.st) = true then { ({ c with pa := a, pc := p } : Cn) with fin := true } else ({ c with pa := a, pc := p } : Cn)) with pa := a', pc := p' } : Cn) = { (if (connOk c ps && mayW c.st) = true then { c with fin := true } else c) with pa := a', pc := p' }
  generalize (connOk c ps && mayW c.st) = b
  cases b <;> rfl

theorem connclose_hs {c : Cn} {ps : List (Int × ByteArray)} (gc : GoodC c ps) (q : Nat) (wx : World) (R : Rd shP wx (some ⟨q, 0, none⟩) c.pn ps) :
    Calls Try.prog 16 #[.agg (cnCells { c with pa := some ⟨q, 0, none⟩, pc := c.pn })] wx fun e w' => ∃ g cp, e = .returned (.agg (cnCells { closeC c ps with pa := some ⟨g, 0, none⟩, pc := cp })) ∧ Held shP w' wx.heap.size g (closeC c ps).pn cp ps ∧ Since wx w' := by
  refine (specClose { c with pa := some ⟨q, 0, none⟩, pc := c.pn } ps (good_at gc _ _) (fun h => by cases h) wx R).mono ?_
  rintro e w' ⟨g, cp, h, H, k⟩
  refine ⟨g, cp, h.trans ?_, by rw [connclose_pn]; exact H, k⟩
  first | (rw [connclose_at]; done) | (rw [connclose_at]; rfl)

theorem connclose_hi {c : Cn} {ps : List (Int × ByteArray)} (gc : GoodC c ps) (q : Nat) (wx : World) (R : Rd shP wx (some ⟨q, 0, none⟩) c.pn ps) :
    Calls Try.prog 17 #[.agg (cnCells { c with pa := some ⟨q, 0, none⟩, pc := c.pn })] wx fun e w' => ∃ g cp, e = .returned (.agg (cnCells { closeC c ps with pa := some ⟨g, 0, none⟩, pc := cp })) ∧ Held shP w' wx.heap.size g (closeC c ps).pn cp ps ∧ Since wx w' := by
  refine (implClose { c with pa := some ⟨q, 0, none⟩, pc := c.pn } ps (good_at gc _ _) wx R).mono ?_
  rintro e w' ⟨g, h, H, k⟩
  refine ⟨g, c.pn, h.trans ?_, by rw [connclose_pn]; exact H, k⟩
  first | (rw [connclose_at]; done) | (rw [connclose_at]; rfl)

set_option maxHeartbeats 16000000 in
set_option maxRecDepth 20000 in
theorem walk (c0 : Cn) (p0 : List (Int × ByteArray)) (w : World) (R0 : Rd shP w c0.pa c0.pn p0) (u0 : WfC c0 p0) :
    Calls Try.prog 5 #[.agg (cnCells c0)] w fun e w' => e = .returned (.bool true) ∧ Below w.heap.size w w' := by
  have A := Blk.new w (cnCells c0) 33
  have G := (Since.refl w).alloc (.cells (cnCells c0) 33)
  have hS := fun wx (Rx : Rd shP wx c0.pa c0.pn p0) => szConn c0 p0 1048576 (by omega) (by omega) u0.v_oD u0.v_iD wx Rx (fun i hi => (u0.parts i hi).2)
  unfold cnVal at hS
  go_enter Try.func5, Try.ntmps5
  go_upto_region 2 with (fail)
  generalize w.alloc (.cells (cnCells c0) 33) = w1 at A G ⊢
  have hG1 := G.size
  have hA1 := A.lt
  refine wp_region_lit ?_
  refine load_big lw_big (cn_size _) A rfl _ rfl rfl ?_
  refine move_step rfl _ rfl ?_
  refine wpList_frame (a' := { tmps := #[.agg (cnCells c0), .pointer (some ⟨w.heap.size, 0, none⟩), .bool false, .int .i64 1048576, undef, undef, undef, undef, undef, undef, undef, .agg (cnCells c0), .int .i64 1048576, undef, undef, undef, undef, undef, undef, undef, undef, undef, undef, undef, undef, undef, undef, undef, undef, undef, undef, undef, undef, undef, undef, undef, undef, undef, undef, undef, undef, undef, undef, undef, undef, undef, undef, undef, undef, undef, undef, undef, undef, undef, undef, undef, undef, undef, undef, undef, undef, undef, undef, undef, undef, undef, undef, undef, undef], defers := [] }) (by kernel_rfl) ?_
  refine call_step rfl 7 #[.agg (cnCells c0), .int .i64 1048576] (by kernel_rfl) (hS _ (R0.since G)) ?_
  rintro _ qw1 ⟨⟨r, rfl, hb⟩, qg2⟩
  refine ⟨_, rfl, ?_⟩
  replace A := A.since qg2
  replace G := G.trans qg2
  have qg2_s := qg2.size
  replace hb : Hid _ := hb
  refine step_val (w' := qw1) rfl (.int .i64 r) (by kernel_rfl) ?_
  refine wpList_frame (a' := { tmps := #[.agg (cnCells c0), .pointer (some ⟨w.heap.size, 0, none⟩), .bool false, .int .i64 r, undef, undef, undef, undef, undef, undef, undef, .agg (cnCells c0), .int .i64 1048576, .int .i64 r, undef, undef, undef, undef, undef, undef, undef, undef, undef, undef, undef, undef, undef, undef, undef, undef, undef, undef, undef, undef, undef, undef, undef, undef, undef, undef, undef, undef, undef, undef, undef, undef, undef, undef, undef, undef, undef, undef, undef, undef, undef, undef, undef, undef, undef, undef, undef, undef, undef, undef, undef, undef, undef, undef, undef], defers := [] }) (by kernel_rfl) ?_
  clear hS
  rcases Int.lt_or_le r 0 with hr | hr
  · go_wp2_with (fail)
    go_ret
    exact ⟨rfl, G⟩
  have gc := good_of u0 (hb.out hr)
  have hn : c0.pn ≤ 1048576 := gc.gd.hn
  clear hb
  have hT := fun wx (Rx : Rd shP wx c0.pa c0.pn p0) => toConn c0 p0 hn wx Rx
  unfold cnVal at hT
  have hs := fun q wx Rx => connclose_hs (c := c0) (ps := p0) gc q wx Rx
  have hi := fun q wx Rx => connclose_hi (c := c0) (ps := p0) gc q wx Rx
  have hDn : (closeC c0 p0).pn = c0.pn := connclose_pn c0 p0
  generalize closeC c0 p0 = D at hs hi hDn
  have hn2 : D.pn ≤ 1048576 := by omega
  have kT := fun q q2 p p2 B B2 wx (T1 : Held shP wx B q D.pn p p0) (T2 : Held shP wx B2 q2 D.pn p2 p0) => eqCn D q p q2 p2 p0 hn2 wx T1.reads T2.reads
  have kC := fun q q2 p p2 wx Rx Qx => eqCn c0 q p q2 p2 p0 hn wx Rx Qx
  replace hDn : Hid _ := hDn
  go_upto_region 5 with (fail)
  refine wp_region_lit ?_
  refine load_big lw_big (cn_size _) A rfl _ rfl rfl ?_
  refine call_step rfl 9 #[.agg (cnCells c0)] (by kernel_rfl) (hT _ (R0.since G)) ?_
  rintro _ qw3 ⟨g4, rfl, H4, qg4⟩
  refine ⟨_, rfl, ?_⟩
  replace A := A.since qg4
  replace G := G.trans qg4
  have qg4_s := qg4.size
  have H4_0 := H4.low'
  replace H4 := H4.raise (show w.heap.size ≤ g4 by omega)
  have H4_1 := H4.lt
  refine wpList_frame (a' := { tmps := #[.agg (cnCells c0), .pointer (some ⟨w.heap.size, 0, none⟩), .bool false, .int .i64 r, undef, undef, undef, undef, undef, undef, undef, .agg (cnCells c0), .int .i64 1048576, .int .i64 r, .int .i64 r, .bool (decide (r < 0)), .agg (cnCells c0), .agg (cnCells { c0 with pa := some ⟨g4, 0, none⟩, pc := c0.pn }), undef, undef, undef, undef, undef, undef, undef, undef, undef, undef, undef, undef, undef, undef, undef, undef, undef, undef, undef, undef, undef, undef, undef, undef, undef, undef, undef, undef, undef, undef, undef, undef, undef, undef, undef, undef, undef, undef, undef, undef, undef, undef, undef, undef, undef, undef, undef, undef, undef, undef, undef], defers := [] }) (by kernel_rfl) ?_
  refine call_step rfl 16 #[.agg (cnCells { c0 with pa := some ⟨g4, 0, none⟩, pc := c0.pn })] (by kernel_rfl) (hs g4 _ H4.reads) ?_
  rintro _ qw5 ⟨g5, p5, rfl, H5, qg6⟩
  refine ⟨_, rfl, ?_⟩
  replace A := A.since qg6
  replace H4 := H4.since qg6
  replace G := G.trans qg6
  have qg6_s := qg6.size
  have H5_0 := H5.low'
  replace H5 := H5.raise (show w.heap.size ≤ g5 by omega)
  have H5_1 := H5.lt
  refine step_val (w' := qw5.alloc (.cells (cnCells cnZero) 42)) rfl (.pointer (some ⟨qw5.heap.size, 0, none⟩)) (by kernel_rfl) ?_
  have qB8 := Blk.new qw5 (cnCells cnZero) 42
  have qg9 := (Since.refl qw5).alloc (.cells (cnCells cnZero) 42)
  replace A := A.since qg9
  replace H4 := H4.since qg9
  replace H5 := H5.since qg9
  replace G := G.trans qg9
  generalize qw5.alloc (.cells (cnCells cnZero) 42) = qw7 at A H4 H5 G qB8 qg9 ⊢
  have qB8_l := qB8.lt
  have qg9_s := qg9.size
  refine wpList_frame (a' := { tmps := #[.agg (cnCells c0), .pointer (some ⟨w.heap.size, 0, none⟩), .bool false, .int .i64 r, .pointer (some ⟨qw5.heap.size, 0, none⟩), undef, undef, undef, undef, undef, undef, .agg (cnCells c0), .int .i64 1048576, .int .i64 r, .int .i64 r, .bool (decide (r < 0)), .agg (cnCells c0), .agg (cnCells { c0 with pa := some ⟨g4, 0, none⟩, pc := c0.pn }), .agg (cnCells { D with pa := some ⟨g5, 0, none⟩, pc := p5 }), undef, undef, undef, undef, undef, undef, undef, undef, undef, undef, undef, undef, undef, undef, undef, undef, undef, undef, undef, undef, undef, undef, undef, undef, undef, undef, undef, undef, undef, undef, undef, undef, undef, undef, undef, undef, undef, undef, undef, undef, undef, undef, undef, undef, undef, undef, undef, undef, undef, undef], defers := [] }) (by kernel_rfl) ?_
  refine store_big cn_big (cn_size _) (cn_size _) (cn_one _) qB8 rfl _ _ rfl rfl rfl ?_
  intro qw10 qt11 qB12
  clear qB8
  replace A := A.touch qt11 (by omega)
  replace H4 := H4.touch qt11 (by omega)
  replace H5 := H5.touch qt11 (by omega)
  replace G := since_touch G qt11 (by omega)
  have qt11_s := qt11.size
  refine wpList_frame (a' := { tmps := #[.agg (cnCells c0), .pointer (some ⟨w.heap.size, 0, none⟩), .bool false, .int .i64 r, .pointer (some ⟨qw5.heap.size, 0, none⟩), undef, undef, undef, undef, undef, undef, .agg (cnCells c0), .int .i64 1048576, .int .i64 r, .int .i64 r, .bool (decide (r < 0)), .agg (cnCells c0), .agg (cnCells { c0 with pa := some ⟨g4, 0, none⟩, pc := c0.pn }), .agg (cnCells { D with pa := some ⟨g5, 0, none⟩, pc := p5 }), undef, undef, undef, undef, undef, undef, undef, undef, undef, undef, undef, undef, undef, undef, undef, undef, undef, undef, undef, undef, undef, undef, undef, undef, undef, undef, undef, undef, undef, undef, undef, undef, undef, undef, undef, undef, undef, undef, undef, undef, undef, undef, undef, undef, undef, undef, undef, undef, undef, undef], defers := [] }) (by kernel_rfl) ?_
  go_upto_region 6 with (fail)
  refine wp_region_lit ?_
  refine load_big lw_big (cn_size _) A rfl _ rfl rfl ?_
  refine call_step rfl 9 #[.agg (cnCells c0)] (by kernel_rfl) (hT _ (R0.since G)) ?_
  rintro _ qw13 ⟨g6, rfl, H6, qg14⟩
  refine ⟨_, rfl, ?_⟩
  replace A := A.since qg14
  replace qB12 := qB12.since qg14
  replace H4 := H4.since qg14
  replace H5 := H5.since qg14
  replace G := G.trans qg14
  have qg14_s := qg14.size
  have H6_0 := H6.low'
  replace H6 := H6.raise (show w.heap.size ≤ g6 by omega)
  have H6_1 := H6.lt
  refine wpList_frame (a' := { tmps := #[.agg (cnCells c0), .pointer (some ⟨w.heap.size, 0, none⟩), .bool false, .int .i64 r, .pointer (some ⟨qw5.heap.size, 0, none⟩), undef, undef, undef, undef, undef, undef, .agg (cnCells c0), .int .i64 1048576, .int .i64 r, .int .i64 r, .bool (decide (r < 0)), .agg (cnCells c0), .agg (cnCells { c0 with pa := some ⟨g4, 0, none⟩, pc := c0.pn }), .agg (cnCells { D with pa := some ⟨g5, 0, none⟩, pc := p5 }), .agg (cnCells c0), .agg (cnCells { c0 with pa := some ⟨g6, 0, none⟩, pc := c0.pn }), undef, undef, undef, undef, undef, undef, undef, undef, undef, undef, undef, undef, undef, undef, undef, undef, undef, undef, undef, undef, undef, undef, undef, undef, undef, undef, undef, undef, undef, undef, undef, undef, undef, undef, undef, undef, undef, undef, undef, undef, undef, undef, undef, undef, undef, undef, undef, undef], defers := [] }) (by kernel_rfl) ?_
  refine step_val (w' := qw13.alloc (.cells (cnCells cnZero) 42)) rfl (.pointer (some ⟨qw13.heap.size, 0, none⟩)) (by kernel_rfl) ?_
  have qB16 := Blk.new qw13 (cnCells cnZero) 42
  have qg17 := (Since.refl qw13).alloc (.cells (cnCells cnZero) 42)
  replace A := A.since qg17
  replace qB12 := qB12.since qg17
  replace H4 := H4.since qg17
  replace H5 := H5.since qg17
  replace H6 := H6.since qg17
  replace G := G.trans qg17
  generalize qw13.alloc (.cells (cnCells cnZero) 42) = qw15 at A qB12 H4 H5 H6 G qB16 qg17 ⊢
  have qB16_l := qB16.lt
  have qg17_s := qg17.size
  refine wpList_frame (a' := { tmps := #[.agg (cnCells c0), .pointer (some ⟨w.heap.size, 0, none⟩), .bool false, .int .i64 r, .pointer (some ⟨qw5.heap.size, 0, none⟩), .pointer (some ⟨qw13.heap.size, 0, none⟩), undef, undef, undef, undef, undef, .agg (cnCells c0), .int .i64 1048576, .int .i64 r, .int .i64 r, .bool (decide (r < 0)), .agg (cnCells c0), .agg (cnCells { c0 with pa := some ⟨g4, 0, none⟩, pc := c0.pn }), .agg (cnCells { D with pa := some ⟨g5, 0, none⟩, pc := p5 }), .agg (cnCells c0), .agg (cnCells { c0 with pa := some ⟨g6, 0, none⟩, pc := c0.pn }), undef, undef, undef, undef, undef, undef, undef, undef, undef, undef, undef, undef, undef, undef, undef, undef, undef, undef, undef, undef, undef, undef, undef, undef, undef, undef, undef, undef, undef, undef, undef, undef, undef, undef, undef, undef, undef, undef, undef, undef, undef, undef, undef, undef, undef, undef, undef, undef], defers := [] }) (by kernel_rfl) ?_
  refine store_big cn_big (cn_size _) (cn_size _) (cn_one _) qB16 rfl _ _ rfl rfl rfl ?_
  intro qw18 qt19 qB20
  clear qB16
  replace A := A.touch qt19 (by omega)
  replace qB12 := qB12.touch qt19 (by omega)
  replace H4 := H4.touch qt19 (by omega)
  replace H5 := H5.touch qt19 (by omega)
  replace H6 := H6.touch qt19 (by omega)
  replace G := since_touch G qt19 (by omega)
  have qt19_s := qt19.size
  refine wpList_frame (a' := { tmps := #[.agg (cnCells c0), .pointer (some ⟨w.heap.size, 0, none⟩), .bool false, .int .i64 r, .pointer (some ⟨qw5.heap.size, 0, none⟩), .pointer (some ⟨qw13.heap.size, 0, none⟩), undef, undef, undef, undef, undef, .agg (cnCells c0), .int .i64 1048576, .int .i64 r, .int .i64 r, .bool (decide (r < 0)), .agg (cnCells c0), .agg (cnCells { c0 with pa := some ⟨g4, 0, none⟩, pc := c0.pn }), .agg (cnCells { D with pa := some ⟨g5, 0, none⟩, pc := p5 }), .agg (cnCells c0), .agg (cnCells { c0 with pa := some ⟨g6, 0, none⟩, pc := c0.pn }), undef, undef, undef, undef, undef, undef, undef, undef, undef, undef, undef, undef, undef, undef, undef, undef, undef, undef, undef, undef, undef, undef, undef, undef, undef, undef, undef, undef, undef, undef, undef, undef, undef, undef, undef, undef, undef, undef, undef, undef, undef, undef, undef, undef, undef, undef, undef, undef], defers := [] }) (by kernel_rfl) ?_
  go_upto_region 7 with (fail)
  refine wp_region_lit ?_
  refine load_big cn_big (cn_size _) qB20 rfl _ rfl rfl ?_
  refine call_step rfl 17 #[.agg (cnCells { c0 with pa := some ⟨g6, 0, none⟩, pc := c0.pn })] (by kernel_rfl) (hi g6 _ H6.reads) ?_
  rintro _ qw21 ⟨g7, p7, rfl, H7, qg22⟩
  refine ⟨_, rfl, ?_⟩
  replace A := A.since qg22
  replace qB12 := qB12.since qg22
  replace qB20 := qB20.since qg22
  replace H4 := H4.since qg22
  replace H5 := H5.since qg22
  replace H6 := H6.since qg22
  replace G := G.trans qg22
  have qg22_s := qg22.size
  have H7_0 := H7.low'
  replace H7 := H7.raise (show w.heap.size ≤ g7 by omega)
  have H7_1 := H7.lt
  refine wpList_frame (a' := { tmps := #[.agg (cnCells c0), .pointer (some ⟨w.heap.size, 0, none⟩), .bool false, .int .i64 r, .pointer (some ⟨qw5.heap.size, 0, none⟩), .pointer (some ⟨qw13.heap.size, 0, none⟩), undef, undef, undef, undef, undef, .agg (cnCells c0), .int .i64 1048576, .int .i64 r, .int .i64 r, .bool (decide (r < 0)), .agg (cnCells c0), .agg (cnCells { c0 with pa := some ⟨g4, 0, none⟩, pc := c0.pn }), .agg (cnCells { D with pa := some ⟨g5, 0, none⟩, pc := p5 }), .agg (cnCells c0), .agg (cnCells { c0 with pa := some ⟨g6, 0, none⟩, pc := c0.pn }), .agg (cnCells { c0 with pa := some ⟨g6, 0, none⟩, pc := c0.pn }), .agg (cnCells { D with pa := some ⟨g7, 0, none⟩, pc := p7 }), undef, undef, undef, undef, undef, undef, undef, undef, undef, undef, undef, undef, undef, undef, undef, undef, undef, undef, undef, undef, undef, undef, undef, undef, undef, undef, undef, undef, undef, undef, undef, undef, undef, undef, undef, undef, undef, undef, undef, undef, undef, undef, undef, undef, undef, undef], defers := [] }) (by kernel_rfl) ?_
  refine step_val (w' := qw21.alloc (.cells (cnCells cnZero) 42)) rfl (.pointer (some ⟨qw21.heap.size, 0, none⟩)) (by kernel_rfl) ?_
  have qB24 := Blk.new qw21 (cnCells cnZero) 42
  have qg25 := (Since.refl qw21).alloc (.cells (cnCells cnZero) 42)
  replace A := A.since qg25
  replace qB12 := qB12.since qg25
  replace qB20 := qB20.since qg25
  replace H4 := H4.since qg25
  replace H5 := H5.since qg25
  replace H6 := H6.since qg25
  replace H7 := H7.since qg25
  replace G := G.trans qg25
  generalize qw21.alloc (.cells (cnCells cnZero) 42) = qw23 at A qB12 qB20 H4 H5 H6 H7 G qB24 qg25 ⊢
  have qB24_l := qB24.lt
  have qg25_s := qg25.size
  refine wpList_frame (a' := { tmps := #[.agg (cnCells c0), .pointer (some ⟨w.heap.size, 0, none⟩), .bool false, .int .i64 r, .pointer (some ⟨qw5.heap.size, 0, none⟩), .pointer (some ⟨qw13.heap.size, 0, none⟩), .pointer (some ⟨qw21.heap.size, 0, none⟩), undef, undef, undef, undef, .agg (cnCells c0), .int .i64 1048576, .int .i64 r, .int .i64 r, .bool (decide (r < 0)), .agg (cnCells c0), .agg (cnCells { c0 with pa := some ⟨g4, 0, none⟩, pc := c0.pn }), .agg (cnCells { D with pa := some ⟨g5, 0, none⟩, pc := p5 }), .agg (cnCells c0), .agg (cnCells { c0 with pa := some ⟨g6, 0, none⟩, pc := c0.pn }), .agg (cnCells { c0 with pa := some ⟨g6, 0, none⟩, pc := c0.pn }), .agg (cnCells { D with pa := some ⟨g7, 0, none⟩, pc := p7 }), undef, undef, undef, undef, undef, undef, undef, undef, undef, undef, undef, undef, undef, undef, undef, undef, undef, undef, undef, undef, undef, undef, undef, undef, undef, undef, undef, undef, undef, undef, undef, undef, undef, undef, undef, undef, undef, undef, undef, undef, undef, undef, undef, undef, undef, undef], defers := [] }) (by kernel_rfl) ?_
  refine store_big cn_big (cn_size _) (cn_size _) (cn_one _) qB24 rfl _ _ rfl rfl rfl ?_
  intro qw26 qt27 qB28
  clear qB24
  replace A := A.touch qt27 (by omega)
  replace qB12 := qB12.touch qt27 (by omega)
  replace qB20 := qB20.touch qt27 (by omega)
  replace H4 := H4.touch qt27 (by omega)
  replace H5 := H5.touch qt27 (by omega)
  replace H6 := H6.touch qt27 (by omega)
  replace H7 := H7.touch qt27 (by omega)
  replace G := since_touch G qt27 (by omega)
  have qt27_s := qt27.size
  refine wpList_frame (a' := { tmps := #[.agg (cnCells c0), .pointer (some ⟨w.heap.size, 0, none⟩), .bool false, .int .i64 r, .pointer (some ⟨qw5.heap.size, 0, none⟩), .pointer (some ⟨qw13.heap.size, 0, none⟩), .pointer (some ⟨qw21.heap.size, 0, none⟩), undef, undef, undef, undef, .agg (cnCells c0), .int .i64 1048576, .int .i64 r, .int .i64 r, .bool (decide (r < 0)), .agg (cnCells c0), .agg (cnCells { c0 with pa := some ⟨g4, 0, none⟩, pc := c0.pn }), .agg (cnCells { D with pa := some ⟨g5, 0, none⟩, pc := p5 }), .agg (cnCells c0), .agg (cnCells { c0 with pa := some ⟨g6, 0, none⟩, pc := c0.pn }), .agg (cnCells { c0 with pa := some ⟨g6, 0, none⟩, pc := c0.pn }), .agg (cnCells { D with pa := some ⟨g7, 0, none⟩, pc := p7 }), undef, undef, undef, undef, undef, undef, undef, undef, undef, undef, undef, undef, undef, undef, undef, undef, undef, undef, undef, undef, undef, undef, undef, undef, undef, undef, undef, undef, undef, undef, undef, undef, undef, undef, undef, undef, undef, undef, undef, undef, undef, undef, undef, undef, undef, undef], defers := [] }) (by kernel_rfl) ?_
  go_upto_region 8 with (fail)
  refine wp_region_lit ?_
  refine load_big cn_big (cn_size _) qB28 rfl _ rfl rfl ?_
  refine wpList_frame (a' := { tmps := #[.agg (cnCells c0), .pointer (some ⟨w.heap.size, 0, none⟩), .bool false, .int .i64 r, .pointer (some ⟨qw5.heap.size, 0, none⟩), .pointer (some ⟨qw13.heap.size, 0, none⟩), .pointer (some ⟨qw21.heap.size, 0, none⟩), undef, undef, undef, undef, .agg (cnCells c0), .int .i64 1048576, .int .i64 r, .int .i64 r, .bool (decide (r < 0)), .agg (cnCells c0), .agg (cnCells { c0 with pa := some ⟨g4, 0, none⟩, pc := c0.pn }), .agg (cnCells { D with pa := some ⟨g5, 0, none⟩, pc := p5 }), .agg (cnCells c0), .agg (cnCells { c0 with pa := some ⟨g6, 0, none⟩, pc := c0.pn }), .agg (cnCells { c0 with pa := some ⟨g6, 0, none⟩, pc := c0.pn }), .agg (cnCells { D with pa := some ⟨g7, 0, none⟩, pc := p7 }), .agg (cnCells { D with pa := some ⟨g7, 0, none⟩, pc := p7 }), undef, undef, undef, undef, undef, undef, undef, undef, undef, undef, undef, undef, undef, undef, undef, undef, undef, undef, undef, undef, undef, undef, undef, undef, undef, undef, undef, undef, undef, undef, undef, undef, undef, undef, undef, undef, undef, undef, undef, undef, undef, undef, undef, undef, undef], defers := [] }) (by kernel_rfl) ?_
  refine load_big cn_big (cn_size _) qB12 rfl _ rfl rfl ?_
  refine call_step rfl 11 #[.agg (cnCells { D with pa := some ⟨g7, 0, none⟩, pc := p7 }), .agg (cnCells { D with pa := some ⟨g5, 0, none⟩, pc := p5 })] (by kernel_rfl) (kT _ _ _ _ _ _ _ H7 H5) ?_
  rintro _ qw29 ⟨rfl, qg30⟩
  refine ⟨_, rfl, ?_⟩
  replace A := A.since qg30
  replace qB12 := qB12.since qg30
  replace qB20 := qB20.since qg30
  replace qB28 := qB28.since qg30
  replace H4 := H4.since qg30
  replace H5 := H5.since qg30
  replace H6 := H6.since qg30
  replace H7 := H7.since qg30
  replace G := G.trans qg30
  have qg30_s := qg30.size
  refine wpList_frame (a' := { tmps := #[.agg (cnCells c0), .pointer (some ⟨w.heap.size, 0, none⟩), .bool false, .int .i64 r, .pointer (some ⟨qw5.heap.size, 0, none⟩), .pointer (some ⟨qw13.heap.size, 0, none⟩), .pointer (some ⟨qw21.heap.size, 0, none⟩), undef, undef, undef, undef, .agg (cnCells c0), .int .i64 1048576, .int .i64 r, .int .i64 r, .bool (decide (r < 0)), .agg (cnCells c0), .agg (cnCells { c0 with pa := some ⟨g4, 0, none⟩, pc := c0.pn }), .agg (cnCells { D with pa := some ⟨g5, 0, none⟩, pc := p5 }), .agg (cnCells c0), .agg (cnCells { c0 with pa := some ⟨g6, 0, none⟩, pc := c0.pn }), .agg (cnCells { c0 with pa := some ⟨g6, 0, none⟩, pc := c0.pn }), .agg (cnCells { D with pa := some ⟨g7, 0, none⟩, pc := p7 }), .agg (cnCells { D with pa := some ⟨g7, 0, none⟩, pc := p7 }), .agg (cnCells { D with pa := some ⟨g5, 0, none⟩, pc := p5 }), .bool true, undef, undef, undef, undef, undef, undef, undef, undef, undef, undef, undef, undef, undef, undef, undef, undef, undef, undef, undef, undef, undef, undef, undef, undef, undef, undef, undef, undef, undef, undef, undef, undef, undef, undef, undef, undef, undef, undef, undef, undef, undef, undef, undef], defers := [] }) (by kernel_rfl) ?_
  refine step_val (w' := qw29) rfl (.bool false) (by kernel_rfl) ?_
  refine wpList_frame (a' := { tmps := #[.agg (cnCells c0), .pointer (some ⟨w.heap.size, 0, none⟩), .bool false, .int .i64 r, .pointer (some ⟨qw5.heap.size, 0, none⟩), .pointer (some ⟨qw13.heap.size, 0, none⟩), .pointer (some ⟨qw21.heap.size, 0, none⟩), undef, undef, undef, undef, .agg (cnCells c0), .int .i64 1048576, .int .i64 r, .int .i64 r, .bool (decide (r < 0)), .agg (cnCells c0), .agg (cnCells { c0 with pa := some ⟨g4, 0, none⟩, pc := c0.pn }), .agg (cnCells { D with pa := some ⟨g5, 0, none⟩, pc := p5 }), .agg (cnCells c0), .agg (cnCells { c0 with pa := some ⟨g6, 0, none⟩, pc := c0.pn }), .agg (cnCells { c0 with pa := some ⟨g6, 0, none⟩, pc := c0.pn }), .agg (cnCells { D with pa := some ⟨g7, 0, none⟩, pc := p7 }), .agg (cnCells { D with pa := some ⟨g7, 0, none⟩, pc := p7 }), .agg (cnCells { D with pa := some ⟨g5, 0, none⟩, pc := p5 }), .bool true, .bool false, undef, undef, undef, undef, undef, undef, undef, undef, undef, undef, undef, undef, undef, undef, undef, undef, undef, undef, undef, undef, undef, undef, undef, undef, undef, undef, undef, undef, undef, undef, undef, undef, undef, undef, undef, undef, undef, undef, undef, undef, undef, undef], defers := [] }) (by kernel_rfl) ?_
  go_upto_region 10 with (fail)
  refine wp_region_each (wb := qw29) (fun i x v => match i with
      | 0 => v = .agg (cnCells { c0 with pa := some ⟨g6, 0, none⟩, pc := c0.pn })
      | 1 => v = .agg (cnCells c0)
      | 2 => ∃ g, v = .agg (cnCells { c0 with pa := some ⟨g, 0, none⟩, pc := c0.pn }) ∧ Held shP x 0 g c0.pn c0.pn p0
      | 3 => v = .bool true
      | 4 => v = .bool false
      | _ => True) (fun v => { tmps := #[.agg (cnCells c0), .pointer (some ⟨w.heap.size, 0, none⟩), .bool false, .int .i64 r, .pointer (some ⟨qw5.heap.size, 0, none⟩), .pointer (some ⟨qw13.heap.size, 0, none⟩), .pointer (some ⟨qw21.heap.size, 0, none⟩), undef, undef, undef, undef, .agg (cnCells c0), .int .i64 1048576, .int .i64 r, .int .i64 r, .bool (decide (r < 0)), .agg (cnCells c0), .agg (cnCells { c0 with pa := some ⟨g4, 0, none⟩, pc := c0.pn }), .agg (cnCells { D with pa := some ⟨g5, 0, none⟩, pc := p5 }), .agg (cnCells c0), .agg (cnCells { c0 with pa := some ⟨g6, 0, none⟩, pc := c0.pn }), .agg (cnCells { c0 with pa := some ⟨g6, 0, none⟩, pc := c0.pn }), .agg (cnCells { D with pa := some ⟨g7, 0, none⟩, pc := p7 }), .agg (cnCells { D with pa := some ⟨g7, 0, none⟩, pc := p7 }), .agg (cnCells { D with pa := some ⟨g5, 0, none⟩, pc := p5 }), .bool true, .bool false, v 0, v 1, v 2, v 3, v 4, undef, undef, undef, undef, undef, undef, undef, undef, undef, undef, undef, undef, undef, undef, undef, undef, undef, undef, undef, undef, undef, undef, undef, undef, undef, undef, undef, undef, undef, undef, undef, undef, undef, undef, undef, undef, undef], defers := [] }) (by kernel_rfl) (by kernel_rfl) (Since.refl _) ?_ (fun vals => by kernel_rfl) ?_ ?_
  case refine_1 =>
    intro j x x' v h1 h2
    match j, h2 with
    | 2, h2 =>
      obtain ⟨g, e, T⟩ := h2
      exact ⟨g, e, T.since h1⟩
    | 0, h2 | 1, h2 | 3, h2 | 4, h2 => exact h2
    | n + 5, _ => trivial
  case refine_2 =>
    repeat (first | exact eachDoes_nil | refine eachDoes_cons ?_ ?_)
    all_goals intro vals x hx hv
    all_goals simp [Region.binds] at hv
    · simp [does, doesUpon, go_sem, hv, Since.refl]
    · obtain ⟨h0, g, h2, T⟩ := hv
      simp [does, doesUpon, go_sem, h0, h2]
      refine (kC _ _ _ _ _ (H6.since hx).reads T.reads).mono ?_
      rintro _ x' ⟨rfl, h1⟩
      simp [h1]
    · simp [does, doesUpon, go_sem, hv]
      refine (hT _ (R0.since (G.trans hx))).mono ?_
      rintro _ x' ⟨g, rfl, T, h1⟩
      exact ⟨_, rfl, h1, g, rfl, T.raise (Nat.zero_le _)⟩
    · exact does_load lw_big (cn_size _) (A.since hx) _ rfl rfl ⟨Since.refl _, rfl⟩
    · exact does_load cn_big (cn_size _) (qB20.since hx) _ rfl rfl ⟨Since.refl _, rfl⟩
  case refine_3 =>
    intro qv33 qw31 qh32 hv
    have hv0 : qv33 0 = _ := hv 0 (by decide)
    have hv1 : qv33 1 = _ := hv 1 (by decide)
    obtain ⟨gt, hv2, -⟩ := hv 2 (by decide)
    have hv3 : qv33 3 = _ := hv 3 (by decide)
    have hv4 : qv33 4 = _ := hv 4 (by decide)
    clear hv
    simp only [hv0, hv1, hv2, hv3, hv4]
    clear hv0 hv1 hv2 hv3 hv4
    replace A := A.since qh32
    replace qB12 := qB12.since qh32
    replace qB20 := qB20.since qh32
    replace qB28 := qB28.since qh32
    replace H4 := H4.since qh32
    replace H5 := H5.since qh32
    replace H6 := H6.since qh32
    replace H7 := H7.since qh32
    replace G := G.trans qh32
    have qh32_s := qh32.size
    go_upto_region 13 with (fail)
    refine wp_region_lit ?_
    refine load_big cn_big (cn_size _) qB20 rfl _ rfl rfl ?_
    refine move_step rfl _ rfl ?_
    refine wpList_frame (a' := { tmps := #[.agg (cnCells c0), .pointer (some ⟨w.heap.size, 0, none⟩), .bool false, .int .i64 r, .pointer (some ⟨qw5.heap.size, 0, none⟩), .pointer (some ⟨qw13.heap.size, 0, none⟩), .pointer (some ⟨qw21.heap.size, 0, none⟩), .int .i64 1, undef, undef, undef, .agg (cnCells c0), .int .i64 1048576, .int .i64 r, .int .i64 r, .bool (decide (r < 0)), .agg (cnCells c0), .agg (cnCells { c0 with pa := some ⟨g4, 0, none⟩, pc := c0.pn }), .agg (cnCells { D with pa := some ⟨g5, 0, none⟩, pc := p5 }), .agg (cnCells c0), .agg (cnCells { c0 with pa := some ⟨g6, 0, none⟩, pc := c0.pn }), .agg (cnCells { c0 with pa := some ⟨g6, 0, none⟩, pc := c0.pn }), .agg (cnCells { D with pa := some ⟨g7, 0, none⟩, pc := p7 }), .agg (cnCells { D with pa := some ⟨g7, 0, none⟩, pc := p7 }), .agg (cnCells { D with pa := some ⟨g5, 0, none⟩, pc := p5 }), .bool true, .bool false, .agg (cnCells { c0 with pa := some ⟨g6, 0, none⟩, pc := c0.pn }), .agg (cnCells c0), .agg (cnCells { c0 with pa := some ⟨gt, 0, none⟩, pc := c0.pn }), .bool true, .bool false, .agg (cnCells { c0 with pa := some ⟨g6, 0, none⟩, pc := c0.pn }), .int .i64 1, undef, undef, undef, undef, undef, undef, undef, undef, undef, undef, undef, undef, undef, undef, undef, undef, undef, undef, undef, undef, undef, undef, undef, undef, undef, undef, undef, undef, undef, undef, undef, undef, undef, undef, undef], defers := [] }) (by kernel_rfl) ?_
    refine call_step rfl 12 #[.agg (cnCells { c0 with pa := some ⟨g6, 0, none⟩, pc := c0.pn }), .int .i64 1] (by kernel_rfl) (markCn c0 g6 _ _ _ 1 (by omega) (by omega) _ H6) ?_
    have H6_2 := H6.low'
    rintro _ qw36 ⟨rfl, qt37, ms8, hM8, H6n⟩
    refine ⟨_, rfl, ?_⟩
    clear H6
    have H6 := H6n
    clear H6n
    replace A := A.touch qt37 (by omega)
    replace qB12 := qB12.touch qt37 (by omega)
    replace qB20 := qB20.touch qt37 (by omega)
    replace qB28 := qB28.touch qt37 (by omega)
    replace H4 := H4.touch qt37 (by omega)
    replace H5 := H5.touch qt37 (by omega)
    replace H7 := H7.touch qt37 (by omega)
    replace G := since_touch G qt37 (by omega)
    have qt37_s := qt37.size
    refine step_val (w' := qw36) rfl (.int .i64 (1 + 2 * c0.pn)) (by kernel_rfl) ?_
    refine wpList_frame (a' := { tmps := #[.agg (cnCells c0), .pointer (some ⟨w.heap.size, 0, none⟩), .bool false, .int .i64 r, .pointer (some ⟨qw5.heap.size, 0, none⟩), .pointer (some ⟨qw13.heap.size, 0, none⟩), .pointer (some ⟨qw21.heap.size, 0, none⟩), .int .i64 (1 + 2 * c0.pn), undef, undef, undef, .agg (cnCells c0), .int .i64 1048576, .int .i64 r, .int .i64 r, .bool (decide (r < 0)), .agg (cnCells c0), .agg (cnCells { c0 with pa := some ⟨g4, 0, none⟩, pc := c0.pn }), .agg (cnCells { D with pa := some ⟨g5, 0, none⟩, pc := p5 }), .agg (cnCells c0), .agg (cnCells { c0 with pa := some ⟨g6, 0, none⟩, pc := c0.pn }), .agg (cnCells { c0 with pa := some ⟨g6, 0, none⟩, pc := c0.pn }), .agg (cnCells { D with pa := some ⟨g7, 0, none⟩, pc := p7 }), .agg (cnCells { D with pa := some ⟨g7, 0, none⟩, pc := p7 }), .agg (cnCells { D with pa := some ⟨g5, 0, none⟩, pc := p5 }), .bool true, .bool false, .agg (cnCells { c0 with pa := some ⟨g6, 0, none⟩, pc := c0.pn }), .agg (cnCells c0), .agg (cnCells { c0 with pa := some ⟨gt, 0, none⟩, pc := c0.pn }), .bool true, .bool false, .agg (cnCells { c0 with pa := some ⟨g6, 0, none⟩, pc := c0.pn }), .int .i64 1, .int .i64 (1 + 2 * c0.pn), undef, undef, undef, undef, undef, undef, undef, undef, undef, undef, undef, undef, undef, undef, undef, undef, undef, undef, undef, undef, undef, undef, undef, undef, undef, undef, undef, undef, undef, undef, undef, undef, undef, undef], defers := [] }) (by kernel_rfl) ?_
    go_upto_region 14 with (fail)
    have hlt14 : decide ((1 + 2 * c0.pn) < 0) = false := decide_eq_false (by omega)
    refine wp_region_lit ?_
    refine move_step rfl _ rfl ?_
    refine wpList_frame (a' := { tmps := #[.agg (cnCells c0), .pointer (some ⟨w.heap.size, 0, none⟩), .bool false, .int .i64 r, .pointer (some ⟨qw5.heap.size, 0, none⟩), .pointer (some ⟨qw13.heap.size, 0, none⟩), .pointer (some ⟨qw21.heap.size, 0, none⟩), .int .i64 (1 + 2 * c0.pn), undef, undef, undef, .agg (cnCells c0), .int .i64 1048576, .int .i64 r, .int .i64 r, .bool (decide (r < 0)), .agg (cnCells c0), .agg (cnCells { c0 with pa := some ⟨g4, 0, none⟩, pc := c0.pn }), .agg (cnCells { D with pa := some ⟨g5, 0, none⟩, pc := p5 }), .agg (cnCells c0), .agg (cnCells { c0 with pa := some ⟨g6, 0, none⟩, pc := c0.pn }), .agg (cnCells { c0 with pa := some ⟨g6, 0, none⟩, pc := c0.pn }), .agg (cnCells { D with pa := some ⟨g7, 0, none⟩, pc := p7 }), .agg (cnCells { D with pa := some ⟨g7, 0, none⟩, pc := p7 }), .agg (cnCells { D with pa := some ⟨g5, 0, none⟩, pc := p5 }), .bool true, .bool false, .agg (cnCells { c0 with pa := some ⟨g6, 0, none⟩, pc := c0.pn }), .agg (cnCells c0), .agg (cnCells { c0 with pa := some ⟨gt, 0, none⟩, pc := c0.pn }), .bool true, .bool false, .agg (cnCells { c0 with pa := some ⟨g6, 0, none⟩, pc := c0.pn }), .int .i64 1, .int .i64 (1 + 2 * c0.pn), .int .i64 (1 + 2 * c0.pn), undef, undef, undef, undef, undef, undef, undef, undef, undef, undef, undef, undef, undef, undef, undef, undef, undef, undef, undef, undef, undef, undef, undef, undef, undef, undef, undef, undef, undef, undef, undef, undef, undef], defers := [] }) (by kernel_rfl) ?_
    refine step_val (w' := qw36) rfl (.bool false) (by rw [← hlt14]; kernel_rfl) ?_
    refine wpList_frame (a' := { tmps := #[.agg (cnCells c0), .pointer (some ⟨w.heap.size, 0, none⟩), .bool false, .int .i64 r, .pointer (some ⟨qw5.heap.size, 0, none⟩), .pointer (some ⟨qw13.heap.size, 0, none⟩), .pointer (some ⟨qw21.heap.size, 0, none⟩), .int .i64 (1 + 2 * c0.pn), undef, undef, undef, .agg (cnCells c0), .int .i64 1048576, .int .i64 r, .int .i64 r, .bool (decide (r < 0)), .agg (cnCells c0), .agg (cnCells { c0 with pa := some ⟨g4, 0, none⟩, pc := c0.pn }), .agg (cnCells { D with pa := some ⟨g5, 0, none⟩, pc := p5 }), .agg (cnCells c0), .agg (cnCells { c0 with pa := some ⟨g6, 0, none⟩, pc := c0.pn }), .agg (cnCells { c0 with pa := some ⟨g6, 0, none⟩, pc := c0.pn }), .agg (cnCells { D with pa := some ⟨g7, 0, none⟩, pc := p7 }), .agg (cnCells { D with pa := some ⟨g7, 0, none⟩, pc := p7 }), .agg (cnCells { D with pa := some ⟨g5, 0, none⟩, pc := p5 }), .bool true, .bool false, .agg (cnCells { c0 with pa := some ⟨g6, 0, none⟩, pc := c0.pn }), .agg (cnCells c0), .agg (cnCells { c0 with pa := some ⟨gt, 0, none⟩, pc := c0.pn }), .bool true, .bool false, .agg (cnCells { c0 with pa := some ⟨g6, 0, none⟩, pc := c0.pn }), .int .i64 1, .int .i64 (1 + 2 * c0.pn), .int .i64 (1 + 2 * c0.pn), .bool false, undef, undef, undef, undef, undef, undef, undef, undef, undef, undef, undef, undef, undef, undef, undef, undef, undef, undef, undef, undef, undef, undef, undef, undef, undef, undef, undef, undef, undef, undef, undef, undef], defers := [] }) (by kernel_rfl) ?_
    refine move_step rfl _ rfl ?_
    refine wpList_frame (a' := { tmps := #[.agg (cnCells c0), .pointer (some ⟨w.heap.size, 0, none⟩), .bool false, .int .i64 r, .pointer (some ⟨qw5.heap.size, 0, none⟩), .pointer (some ⟨qw13.heap.size, 0, none⟩), .pointer (some ⟨qw21.heap.size, 0, none⟩), .int .i64 (1 + 2 * c0.pn), undef, undef, undef, .agg (cnCells c0), .int .i64 1048576, .int .i64 r, .int .i64 r, .bool (decide (r < 0)), .agg (cnCells c0), .agg (cnCells { c0 with pa := some ⟨g4, 0, none⟩, pc := c0.pn }), .agg (cnCells { D with pa := some ⟨g5, 0, none⟩, pc := p5 }), .agg (cnCells c0), .agg (cnCells { c0 with pa := some ⟨g6, 0, none⟩, pc := c0.pn }), .agg (cnCells { c0 with pa := some ⟨g6, 0, none⟩, pc := c0.pn }), .agg (cnCells { D with pa := some ⟨g7, 0, none⟩, pc := p7 }), .agg (cnCells { D with pa := some ⟨g7, 0, none⟩, pc := p7 }), .agg (cnCells { D with pa := some ⟨g5, 0, none⟩, pc := p5 }), .bool true, .bool false, .agg (cnCells { c0 with pa := some ⟨g6, 0, none⟩, pc := c0.pn }), .agg (cnCells c0), .agg (cnCells { c0 with pa := some ⟨gt, 0, none⟩, pc := c0.pn }), .bool true, .bool false, .agg (cnCells { c0 with pa := some ⟨g6, 0, none⟩, pc := c0.pn }), .int .i64 1, .int .i64 (1 + 2 * c0.pn), .int .i64 (1 + 2 * c0.pn), .bool false, .bool false, undef, undef, undef, undef, undef, undef, undef, undef, undef, undef, undef, undef, undef, undef, undef, undef, undef, undef, undef, undef, undef, undef, undef, undef, undef, undef, undef, undef, undef, undef, undef], defers := [] }) (by kernel_rfl) ?_
    refine want_big cn_big (cn_size _) qB28 (by kernel_rfl) _ rfl rfl ?_
    refine wpList_frame (a' := { tmps := #[.agg (cnCells c0), .pointer (some ⟨w.heap.size, 0, none⟩), .bool false, .int .i64 r, .pointer (some ⟨qw5.heap.size, 0, none⟩), .pointer (some ⟨qw13.heap.size, 0, none⟩), .pointer (some ⟨qw21.heap.size, 0, none⟩), .int .i64 (1 + 2 * c0.pn), undef, undef, undef, .agg (cnCells c0), .int .i64 1048576, .int .i64 r, .int .i64 r, .bool (decide (r < 0)), .agg (cnCells c0), .agg (cnCells { c0 with pa := some ⟨g4, 0, none⟩, pc := c0.pn }), .agg (cnCells { D with pa := some ⟨g5, 0, none⟩, pc := p5 }), .agg (cnCells c0), .agg (cnCells { c0 with pa := some ⟨g6, 0, none⟩, pc := c0.pn }), .agg (cnCells { c0 with pa := some ⟨g6, 0, none⟩, pc := c0.pn }), .agg (cnCells { D with pa := some ⟨g7, 0, none⟩, pc := p7 }), .agg (cnCells { D with pa := some ⟨g7, 0, none⟩, pc := p7 }), .agg (cnCells { D with pa := some ⟨g5, 0, none⟩, pc := p5 }), .bool true, .bool false, .agg (cnCells { c0 with pa := some ⟨g6, 0, none⟩, pc := c0.pn }), .agg (cnCells c0), .agg (cnCells { c0 with pa := some ⟨gt, 0, none⟩, pc := c0.pn }), .bool true, .bool false, .agg (cnCells { c0 with pa := some ⟨g6, 0, none⟩, pc := c0.pn }), .int .i64 1, .int .i64 (1 + 2 * c0.pn), .int .i64 (1 + 2 * c0.pn), .bool false, .bool false, .agg (cnCells { D with pa := some ⟨g7, 0, none⟩, pc := p7 }), undef, undef, undef, undef, undef, undef, undef, undef, undef, undef, undef, undef, undef, undef, undef, undef, undef, undef, undef, undef, undef, undef, undef, undef, undef, undef, undef, undef, undef, undef], defers := [] }) (by kernel_rfl) ?_
    refine want_big cn_big (cn_size _) qB12 (by kernel_rfl) _ rfl rfl ?_
    refine wpList_frame (a' := { tmps := #[.agg (cnCells c0), .pointer (some ⟨w.heap.size, 0, none⟩), .bool false, .int .i64 r, .pointer (some ⟨qw5.heap.size, 0, none⟩), .pointer (some ⟨qw13.heap.size, 0, none⟩), .pointer (some ⟨qw21.heap.size, 0, none⟩), .int .i64 (1 + 2 * c0.pn), undef, undef, undef, .agg (cnCells c0), .int .i64 1048576, .int .i64 r, .int .i64 r, .bool (decide (r < 0)), .agg (cnCells c0), .agg (cnCells { c0 with pa := some ⟨g4, 0, none⟩, pc := c0.pn }), .agg (cnCells { D with pa := some ⟨g5, 0, none⟩, pc := p5 }), .agg (cnCells c0), .agg (cnCells { c0 with pa := some ⟨g6, 0, none⟩, pc := c0.pn }), .agg (cnCells { c0 with pa := some ⟨g6, 0, none⟩, pc := c0.pn }), .agg (cnCells { D with pa := some ⟨g7, 0, none⟩, pc := p7 }), .agg (cnCells { D with pa := some ⟨g7, 0, none⟩, pc := p7 }), .agg (cnCells { D with pa := some ⟨g5, 0, none⟩, pc := p5 }), .bool true, .bool false, .agg (cnCells { c0 with pa := some ⟨g6, 0, none⟩, pc := c0.pn }), .agg (cnCells c0), .agg (cnCells { c0 with pa := some ⟨gt, 0, none⟩, pc := c0.pn }), .bool true, .bool false, .agg (cnCells { c0 with pa := some ⟨g6, 0, none⟩, pc := c0.pn }), .int .i64 1, .int .i64 (1 + 2 * c0.pn), .int .i64 (1 + 2 * c0.pn), .bool false, .bool false, .agg (cnCells { D with pa := some ⟨g7, 0, none⟩, pc := p7 }), .agg (cnCells { D with pa := some ⟨g5, 0, none⟩, pc := p5 }), undef, undef, undef, undef, undef, undef, undef, undef, undef, undef, undef, undef, undef, undef, undef, undef, undef, undef, undef, undef, undef, undef, undef, undef, undef, undef, undef, undef, undef], defers := [] }) (by kernel_rfl) ?_
    refine want_call (by kernel_rfl) 11 #[.agg (cnCells { D with pa := some ⟨g7, 0, none⟩, pc := p7 }), .agg (cnCells { D with pa := some ⟨g5, 0, none⟩, pc := p5 })] (by kernel_rfl) (kT _ _ _ _ _ _ _ H7 H5) ?_
    rintro _ qw38 ⟨rfl, qg39⟩
    refine ⟨_, rfl, ?_⟩
    replace A := A.since qg39
    replace qB12 := qB12.since qg39
    replace qB20 := qB20.since qg39
    replace qB28 := qB28.since qg39
    replace H4 := H4.since qg39
    replace H5 := H5.since qg39
    replace H7 := H7.since qg39
    replace H6 := H6.since qg39
    replace G := G.trans qg39
    have qg39_s := qg39.size
    refine wpList_frame (a' := { tmps := #[.agg (cnCells c0), .pointer (some ⟨w.heap.size, 0, none⟩), .bool false, .int .i64 r, .pointer (some ⟨qw5.heap.size, 0, none⟩), .pointer (some ⟨qw13.heap.size, 0, none⟩), .pointer (some ⟨qw21.heap.size, 0, none⟩), .int .i64 (1 + 2 * c0.pn), undef, undef, undef, .agg (cnCells c0), .int .i64 1048576, .int .i64 r, .int .i64 r, .bool (decide (r < 0)), .agg (cnCells c0), .agg (cnCells { c0 with pa := some ⟨g4, 0, none⟩, pc := c0.pn }), .agg (cnCells { D with pa := some ⟨g5, 0, none⟩, pc := p5 }), .agg (cnCells c0), .agg (cnCells { c0 with pa := some ⟨g6, 0, none⟩, pc := c0.pn }), .agg (cnCells { c0 with pa := some ⟨g6, 0, none⟩, pc := c0.pn }), .agg (cnCells { D with pa := some ⟨g7, 0, none⟩, pc := p7 }), .agg (cnCells { D with pa := some ⟨g7, 0, none⟩, pc := p7 }), .agg (cnCells { D with pa := some ⟨g5, 0, none⟩, pc := p5 }), .bool true, .bool false, .agg (cnCells { c0 with pa := some ⟨g6, 0, none⟩, pc := c0.pn }), .agg (cnCells c0), .agg (cnCells { c0 with pa := some ⟨gt, 0, none⟩, pc := c0.pn }), .bool true, .bool false, .agg (cnCells { c0 with pa := some ⟨g6, 0, none⟩, pc := c0.pn }), .int .i64 1, .int .i64 (1 + 2 * c0.pn), .int .i64 (1 + 2 * c0.pn), .bool false, .bool false, .agg (cnCells { D with pa := some ⟨g7, 0, none⟩, pc := p7 }), .agg (cnCells { D with pa := some ⟨g5, 0, none⟩, pc := p5 }), .bool true, undef, undef, undef, undef, undef, undef, undef, undef, undef, undef, undef, undef, undef, undef, undef, undef, undef, undef, undef, undef, undef, undef, undef, undef, undef, undef, undef, undef], defers := [] }) (by kernel_rfl) ?_
    refine want_val (w' := qw38) (by kernel_rfl) (.bool false) (by kernel_rfl) ?_
    refine wpList_frame (a' := { tmps := #[.agg (cnCells c0), .pointer (some ⟨w.heap.size, 0, none⟩), .bool false, .int .i64 r, .pointer (some ⟨qw5.heap.size, 0, none⟩), .pointer (some ⟨qw13.heap.size, 0, none⟩), .pointer (some ⟨qw21.heap.size, 0, none⟩), .int .i64 (1 + 2 * c0.pn), undef, undef, undef, .agg (cnCells c0), .int .i64 1048576, .int .i64 r, .int .i64 r, .bool (decide (r < 0)), .agg (cnCells c0), .agg (cnCells { c0 with pa := some ⟨g4, 0, none⟩, pc := c0.pn }), .agg (cnCells { D with pa := some ⟨g5, 0, none⟩, pc := p5 }), .agg (cnCells c0), .agg (cnCells { c0 with pa := some ⟨g6, 0, none⟩, pc := c0.pn }), .agg (cnCells { c0 with pa := some ⟨g6, 0, none⟩, pc := c0.pn }), .agg (cnCells { D with pa := some ⟨g7, 0, none⟩, pc := p7 }), .agg (cnCells { D with pa := some ⟨g7, 0, none⟩, pc := p7 }), .agg (cnCells { D with pa := some ⟨g5, 0, none⟩, pc := p5 }), .bool true, .bool false, .agg (cnCells { c0 with pa := some ⟨g6, 0, none⟩, pc := c0.pn }), .agg (cnCells c0), .agg (cnCells { c0 with pa := some ⟨gt, 0, none⟩, pc := c0.pn }), .bool true, .bool false, .agg (cnCells { c0 with pa := some ⟨g6, 0, none⟩, pc := c0.pn }), .int .i64 1, .int .i64 (1 + 2 * c0.pn), .int .i64 (1 + 2 * c0.pn), .bool false, .bool false, .agg (cnCells { D with pa := some ⟨g7, 0, none⟩, pc := p7 }), .agg (cnCells { D with pa := some ⟨g5, 0, none⟩, pc := p5 }), .bool true, .bool false, undef, undef, undef, undef, undef, undef, undef, undef, undef, undef, undef, undef, undef, undef, undef, undef, undef, undef, undef, undef, undef, undef, undef, undef, undef, undef, undef], defers := [] }) (by kernel_rfl) ?_
    refine step_val (w' := qw38) rfl (.bool false) (by kernel_rfl) ?_
    refine wpList_frame (a' := { tmps := #[.agg (cnCells c0), .pointer (some ⟨w.heap.size, 0, none⟩), .bool false, .int .i64 r, .pointer (some ⟨qw5.heap.size, 0, none⟩), .pointer (some ⟨qw13.heap.size, 0, none⟩), .pointer (some ⟨qw21.heap.size, 0, none⟩), .int .i64 (1 + 2 * c0.pn), undef, undef, undef, .agg (cnCells c0), .int .i64 1048576, .int .i64 r, .int .i64 r, .bool (decide (r < 0)), .agg (cnCells c0), .agg (cnCells { c0 with pa := some ⟨g4, 0, none⟩, pc := c0.pn }), .agg (cnCells { D with pa := some ⟨g5, 0, none⟩, pc := p5 }), .agg (cnCells c0), .agg (cnCells { c0 with pa := some ⟨g6, 0, none⟩, pc := c0.pn }), .agg (cnCells { c0 with pa := some ⟨g6, 0, none⟩, pc := c0.pn }), .agg (cnCells { D with pa := some ⟨g7, 0, none⟩, pc := p7 }), .agg (cnCells { D with pa := some ⟨g7, 0, none⟩, pc := p7 }), .agg (cnCells { D with pa := some ⟨g5, 0, none⟩, pc := p5 }), .bool true, .bool false, .agg (cnCells { c0 with pa := some ⟨g6, 0, none⟩, pc := c0.pn }), .agg (cnCells c0), .agg (cnCells { c0 with pa := some ⟨gt, 0, none⟩, pc := c0.pn }), .bool true, .bool false, .agg (cnCells { c0 with pa := some ⟨g6, 0, none⟩, pc := c0.pn }), .int .i64 1, .int .i64 (1 + 2 * c0.pn), .int .i64 (1 + 2 * c0.pn), .bool false, .bool false, .agg (cnCells { D with pa := some ⟨g7, 0, none⟩, pc := p7 }), .agg (cnCells { D with pa := some ⟨g5, 0, none⟩, pc := p5 }), .bool true, .bool false, .bool false, undef, undef, undef, undef, undef, undef, undef, undef, undef, undef, undef, undef, undef, undef, undef, undef, undef, undef, undef, undef, undef, undef, undef, undef, undef, undef], defers := [] }) (by kernel_rfl) ?_
    go_upto_region 17 with (fail)
    refine wp_region_lit ?_
    refine load_big cn_big (cn_size _) qB28 rfl _ rfl rfl ?_
    refine move_step rfl _ rfl ?_
    refine wpList_frame (a' := { tmps := #[.agg (cnCells c0), .pointer (some ⟨w.heap.size, 0, none⟩), .bool false, .int .i64 r, .pointer (some ⟨qw5.heap.size, 0, none⟩), .pointer (some ⟨qw13.heap.size, 0, none⟩), .pointer (some ⟨qw21.heap.size, 0, none⟩), .int .i64 (1 + 2 * c0.pn), .int .i64 1, undef, undef, .agg (cnCells c0), .int .i64 1048576, .int .i64 r, .int .i64 r, .bool (decide (r < 0)), .agg (cnCells c0), .agg (cnCells { c0 with pa := some ⟨g4, 0, none⟩, pc := c0.pn }), .agg (cnCells { D with pa := some ⟨g5, 0, none⟩, pc := p5 }), .agg (cnCells c0), .agg (cnCells { c0 with pa := some ⟨g6, 0, none⟩, pc := c0.pn }), .agg (cnCells { c0 with pa := some ⟨g6, 0, none⟩, pc := c0.pn }), .agg (cnCells { D with pa := some ⟨g7, 0, none⟩, pc := p7 }), .agg (cnCells { D with pa := some ⟨g7, 0, none⟩, pc := p7 }), .agg (cnCells { D with pa := some ⟨g5, 0, none⟩, pc := p5 }), .bool true, .bool false, .agg (cnCells { c0 with pa := some ⟨g6, 0, none⟩, pc := c0.pn }), .agg (cnCells c0), .agg (cnCells { c0 with pa := some ⟨gt, 0, none⟩, pc := c0.pn }), .bool true, .bool false, .agg (cnCells { c0 with pa := some ⟨g6, 0, none⟩, pc := c0.pn }), .int .i64 1, .int .i64 (1 + 2 * c0.pn), .int .i64 (1 + 2 * c0.pn), .bool false, .bool false, .agg (cnCells { D with pa := some ⟨g7, 0, none⟩, pc := p7 }), .agg (cnCells { D with pa := some ⟨g5, 0, none⟩, pc := p5 }), .bool true, .bool false, .bool false, .agg (cnCells { D with pa := some ⟨g7, 0, none⟩, pc := p7 }), .int .i64 1, undef, undef, undef, undef, undef, undef, undef, undef, undef, undef, undef, undef, undef, undef, undef, undef, undef, undef, undef, undef, undef, undef, undef, undef], defers := [] }) (by kernel_rfl) ?_
    refine call_step rfl 12 #[.agg (cnCells { D with pa := some ⟨g7, 0, none⟩, pc := p7 }), .int .i64 1] (by kernel_rfl) (markCn D g7 _ _ _ 1 (by omega) (by omega) _ H7) ?_
    have H7_2 := H7.low'
    rintro _ qw42 ⟨rfl, qt43, ms9, hM9, H7n⟩
    refine ⟨_, rfl, ?_⟩
    clear H7
    have H7 := H7n
    clear H7n
    replace A := A.touch qt43 (by omega)
    replace qB12 := qB12.touch qt43 (by omega)
    replace qB20 := qB20.touch qt43 (by omega)
    replace qB28 := qB28.touch qt43 (by omega)
    replace H4 := H4.touch qt43 (by omega)
    replace H5 := H5.touch qt43 (by omega)
    replace H6 := H6.touch qt43 (by omega)
    replace G := since_touch G qt43 (by omega)
    have qt43_s := qt43.size
    refine step_val (w' := qw42) rfl (.int .i64 (1 + 2 * D.pn)) (by kernel_rfl) ?_
    refine wpList_frame (a' := { tmps := #[.agg (cnCells c0), .pointer (some ⟨w.heap.size, 0, none⟩), .bool false, .int .i64 r, .pointer (some ⟨qw5.heap.size, 0, none⟩), .pointer (some ⟨qw13.heap.size, 0, none⟩), .pointer (some ⟨qw21.heap.size, 0, none⟩), .int .i64 (1 + 2 * c0.pn), .int .i64 (1 + 2 * D.pn), undef, undef, .agg (cnCells c0), .int .i64 1048576, .int .i64 r, .int .i64 r, .bool (decide (r < 0)), .agg (cnCells c0), .agg (cnCells { c0 with pa := some ⟨g4, 0, none⟩, pc := c0.pn }), .agg (cnCells { D with pa := some ⟨g5, 0, none⟩, pc := p5 }), .agg (cnCells c0), .agg (cnCells { c0 with pa := some ⟨g6, 0, none⟩, pc := c0.pn }), .agg (cnCells { c0 with pa := some ⟨g6, 0, none⟩, pc := c0.pn }), .agg (cnCells { D with pa := some ⟨g7, 0, none⟩, pc := p7 }), .agg (cnCells { D with pa := some ⟨g7, 0, none⟩, pc := p7 }), .agg (cnCells { D with pa := some ⟨g5, 0, none⟩, pc := p5 }), .bool true, .bool false, .agg (cnCells { c0 with pa := some ⟨g6, 0, none⟩, pc := c0.pn }), .agg (cnCells c0), .agg (cnCells { c0 with pa := some ⟨gt, 0, none⟩, pc := c0.pn }), .bool true, .bool false, .agg (cnCells { c0 with pa := some ⟨g6, 0, none⟩, pc := c0.pn }), .int .i64 1, .int .i64 (1 + 2 * c0.pn), .int .i64 (1 + 2 * c0.pn), .bool false, .bool false, .agg (cnCells { D with pa := some ⟨g7, 0, none⟩, pc := p7 }), .agg (cnCells { D with pa := some ⟨g5, 0, none⟩, pc := p5 }), .bool true, .bool false, .bool false, .agg (cnCells { D with pa := some ⟨g7, 0, none⟩, pc := p7 }), .int .i64 1, .int .i64 (1 + 2 * D.pn), undef, undef, undef, undef, undef, undef, undef, undef, undef, undef, undef, undef, undef, undef, undef, undef, undef, undef, undef, undef, undef, undef, undef], defers := [] }) (by kernel_rfl) ?_
    go_upto_region 19 with (fail)
    refine wp_region_lit ?_
    refine load_big cn_big (cn_size _) qB28 rfl _ rfl rfl ?_
    refine move_step rfl _ rfl ?_
    refine wpList_frame (a' := { tmps := #[.agg (cnCells c0), .pointer (some ⟨w.heap.size, 0, none⟩), .bool false, .int .i64 r, .pointer (some ⟨qw5.heap.size, 0, none⟩), .pointer (some ⟨qw13.heap.size, 0, none⟩), .pointer (some ⟨qw21.heap.size, 0, none⟩), .int .i64 (1 + 2 * c0.pn), .int .i64 (1 + 2 * D.pn), .int .i64 1, undef, .agg (cnCells c0), .int .i64 1048576, .int .i64 r, .int .i64 r, .bool (decide (r < 0)), .agg (cnCells c0), .agg (cnCells { c0 with pa := some ⟨g4, 0, none⟩, pc := c0.pn }), .agg (cnCells { D with pa := some ⟨g5, 0, none⟩, pc := p5 }), .agg (cnCells c0), .agg (cnCells { c0 with pa := some ⟨g6, 0, none⟩, pc := c0.pn }), .agg (cnCells { c0 with pa := some ⟨g6, 0, none⟩, pc := c0.pn }), .agg (cnCells { D with pa := some ⟨g7, 0, none⟩, pc := p7 }), .agg (cnCells { D with pa := some ⟨g7, 0, none⟩, pc := p7 }), .agg (cnCells { D with pa := some ⟨g5, 0, none⟩, pc := p5 }), .bool true, .bool false, .agg (cnCells { c0 with pa := some ⟨g6, 0, none⟩, pc := c0.pn }), .agg (cnCells c0), .agg (cnCells { c0 with pa := some ⟨gt, 0, none⟩, pc := c0.pn }), .bool true, .bool false, .agg (cnCells { c0 with pa := some ⟨g6, 0, none⟩, pc := c0.pn }), .int .i64 1, .int .i64 (1 + 2 * c0.pn), .int .i64 (1 + 2 * c0.pn), .bool false, .bool false, .agg (cnCells { D with pa := some ⟨g7, 0, none⟩, pc := p7 }), .agg (cnCells { D with pa := some ⟨g5, 0, none⟩, pc := p5 }), .bool true, .bool false, .bool false, .agg (cnCells { D with pa := some ⟨g7, 0, none⟩, pc := p7 }), .int .i64 1, .int .i64 (1 + 2 * D.pn), .agg (cnCells { D with pa := some ⟨g7, 0, none⟩, pc := p7 }), .int .i64 1, undef, undef, undef, undef, undef, undef, undef, undef, undef, undef, undef, undef, undef, undef, undef, undef, undef, undef, undef, undef, undef], defers := [] }) (by kernel_rfl) ?_
    refine call_step rfl 13 #[.agg (cnCells { D with pa := some ⟨g7, 0, none⟩, pc := p7 }), .int .i64 1] (by kernel_rfl) (heldCn D g7 _ _ _ 1 (by omega) (by omega) _ H7 hM9) ?_
    rintro _ qw44 ⟨rfl, qg45⟩
    refine ⟨_, rfl, ?_⟩
    replace A := A.since qg45
    replace qB12 := qB12.since qg45
    replace qB20 := qB20.since qg45
    replace qB28 := qB28.since qg45
    replace H4 := H4.since qg45
    replace H5 := H5.since qg45
    replace H6 := H6.since qg45
    replace H7 := H7.since qg45
    replace G := G.trans qg45
    have qg45_s := qg45.size
    refine step_val (w' := qw44) rfl (.int .i64 (1 + 2 * D.pn)) (by kernel_rfl) ?_
    refine wpList_frame (a' := { tmps := #[.agg (cnCells c0), .pointer (some ⟨w.heap.size, 0, none⟩), .bool false, .int .i64 r, .pointer (some ⟨qw5.heap.size, 0, none⟩), .pointer (some ⟨qw13.heap.size, 0, none⟩), .pointer (some ⟨qw21.heap.size, 0, none⟩), .int .i64 (1 + 2 * c0.pn), .int .i64 (1 + 2 * D.pn), .int .i64 (1 + 2 * D.pn), undef, .agg (cnCells c0), .int .i64 1048576, .int .i64 r, .int .i64 r, .bool (decide (r < 0)), .agg (cnCells c0), .agg (cnCells { c0 with pa := some ⟨g4, 0, none⟩, pc := c0.pn }), .agg (cnCells { D with pa := some ⟨g5, 0, none⟩, pc := p5 }), .agg (cnCells c0), .agg (cnCells { c0 with pa := some ⟨g6, 0, none⟩, pc := c0.pn }), .agg (cnCells { c0 with pa := some ⟨g6, 0, none⟩, pc := c0.pn }), .agg (cnCells { D with pa := some ⟨g7, 0, none⟩, pc := p7 }), .agg (cnCells { D with pa := some ⟨g7, 0, none⟩, pc := p7 }), .agg (cnCells { D with pa := some ⟨g5, 0, none⟩, pc := p5 }), .bool true, .bool false, .agg (cnCells { c0 with pa := some ⟨g6, 0, none⟩, pc := c0.pn }), .agg (cnCells c0), .agg (cnCells { c0 with pa := some ⟨gt, 0, none⟩, pc := c0.pn }), .bool true, .bool false, .agg (cnCells { c0 with pa := some ⟨g6, 0, none⟩, pc := c0.pn }), .int .i64 1, .int .i64 (1 + 2 * c0.pn), .int .i64 (1 + 2 * c0.pn), .bool false, .bool false, .agg (cnCells { D with pa := some ⟨g7, 0, none⟩, pc := p7 }), .agg (cnCells { D with pa := some ⟨g5, 0, none⟩, pc := p5 }), .bool true, .bool false, .bool false, .agg (cnCells { D with pa := some ⟨g7, 0, none⟩, pc := p7 }), .int .i64 1, .int .i64 (1 + 2 * D.pn), .agg (cnCells { D with pa := some ⟨g7, 0, none⟩, pc := p7 }), .int .i64 1, .int .i64 (1 + 2 * D.pn), undef, undef, undef, undef, undef, undef, undef, undef, undef, undef, undef, undef, undef, undef, undef, undef, undef, undef, undef, undef], defers := [] }) (by kernel_rfl) ?_
    go_upto_region 24 with (fail)
    refine wp_region_lit ?_
    refine load_big lw_big (cn_size _) A rfl _ rfl rfl ?_
    refine call_step rfl 9 #[.agg (cnCells c0)] (by kernel_rfl) (hT _ (R0.since G)) ?_
    rintro _ qw46 ⟨g10, rfl, H10, qg47⟩
    refine ⟨_, rfl, ?_⟩
    replace A := A.since qg47
    replace qB12 := qB12.since qg47
    replace qB20 := qB20.since qg47
    replace qB28 := qB28.since qg47
    replace H4 := H4.since qg47
    replace H5 := H5.since qg47
    replace H6 := H6.since qg47
    replace H7 := H7.since qg47
    replace G := G.trans qg47
    have qg47_s := qg47.size
    have H10_0 := H10.low'
    replace H10 := H10.raise (show w.heap.size ≤ g10 by omega)
    have H10_1 := H10.lt
    refine wpList_frame (a' := { tmps := #[.agg (cnCells c0), .pointer (some ⟨w.heap.size, 0, none⟩), .bool false, .int .i64 r, .pointer (some ⟨qw5.heap.size, 0, none⟩), .pointer (some ⟨qw13.heap.size, 0, none⟩), .pointer (some ⟨qw21.heap.size, 0, none⟩), .int .i64 (1 + 2 * c0.pn), .int .i64 (1 + 2 * D.pn), .int .i64 (1 + 2 * D.pn), undef, .agg (cnCells c0), .int .i64 1048576, .int .i64 r, .int .i64 r, .bool (decide (r < 0)), .agg (cnCells c0), .agg (cnCells { c0 with pa := some ⟨g4, 0, none⟩, pc := c0.pn }), .agg (cnCells { D with pa := some ⟨g5, 0, none⟩, pc := p5 }), .agg (cnCells c0), .agg (cnCells { c0 with pa := some ⟨g6, 0, none⟩, pc := c0.pn }), .agg (cnCells { c0 with pa := some ⟨g6, 0, none⟩, pc := c0.pn }), .agg (cnCells { D with pa := some ⟨g7, 0, none⟩, pc := p7 }), .agg (cnCells { D with pa := some ⟨g7, 0, none⟩, pc := p7 }), .agg (cnCells { D with pa := some ⟨g5, 0, none⟩, pc := p5 }), .bool true, .bool false, .agg (cnCells { c0 with pa := some ⟨g6, 0, none⟩, pc := c0.pn }), .agg (cnCells c0), .agg (cnCells { c0 with pa := some ⟨gt, 0, none⟩, pc := c0.pn }), .bool true, .bool false, .agg (cnCells { c0 with pa := some ⟨g6, 0, none⟩, pc := c0.pn }), .int .i64 1, .int .i64 (1 + 2 * c0.pn), .int .i64 (1 + 2 * c0.pn), .bool false, .bool false, .agg (cnCells { D with pa := some ⟨g7, 0, none⟩, pc := p7 }), .agg (cnCells { D with pa := some ⟨g5, 0, none⟩, pc := p5 }), .bool true, .bool false, .bool false, .agg (cnCells { D with pa := some ⟨g7, 0, none⟩, pc := p7 }), .int .i64 1, .int .i64 (1 + 2 * D.pn), .agg (cnCells { D with pa := some ⟨g7, 0, none⟩, pc := p7 }), .int .i64 1, .int .i64 (1 + 2 * D.pn), .int .i64 (1 + 2 * D.pn), .bool (decide ((1 + 2 * D.pn) < 0)), .int .i64 (1 + 2 * D.pn), .int .i64 (1 + 2 * D.pn), .bool false, .agg (cnCells c0), .agg (cnCells { c0 with pa := some ⟨g10, 0, none⟩, pc := c0.pn }), undef, undef, undef, undef, undef, undef, undef, undef, undef, undef, undef, undef, undef], defers := [] }) (by kernel_rfl) ?_
    refine call_step rfl 17 #[.agg (cnCells { c0 with pa := some ⟨g10, 0, none⟩, pc := c0.pn })] (by kernel_rfl) (hi g10 _ H10.reads) ?_
    rintro _ qw48 ⟨g11, p11, rfl, H11, qg49⟩
    refine ⟨_, rfl, ?_⟩
    replace A := A.since qg49
    replace qB12 := qB12.since qg49
    replace qB20 := qB20.since qg49
    replace qB28 := qB28.since qg49
    replace H4 := H4.since qg49
    replace H5 := H5.since qg49
    replace H6 := H6.since qg49
    replace H7 := H7.since qg49
    replace H10 := H10.since qg49
    replace G := G.trans qg49
    have qg49_s := qg49.size
    have H11_0 := H11.low'
    replace H11 := H11.raise (show w.heap.size ≤ g11 by omega)
    have H11_1 := H11.lt
    refine step_val (w' := qw48.alloc (.cells (cnCells cnZero) 42)) rfl (.pointer (some ⟨qw48.heap.size, 0, none⟩)) (by kernel_rfl) ?_
    have qB51 := Blk.new qw48 (cnCells cnZero) 42
    have qg52 := (Since.refl qw48).alloc (.cells (cnCells cnZero) 42)
    replace A := A.since qg52
    replace qB12 := qB12.since qg52
    replace qB20 := qB20.since qg52
    replace qB28 := qB28.since qg52
    replace H4 := H4.since qg52
    replace H5 := H5.since qg52
    replace H6 := H6.since qg52
    replace H7 := H7.since qg52
    replace H10 := H10.since qg52
    replace H11 := H11.since qg52
    replace G := G.trans qg52
    generalize qw48.alloc (.cells (cnCells cnZero) 42) = qw50 at A qB12 qB20 qB28 H4 H5 H6 H7 H10 H11 G qB51 qg52 ⊢
    have qB51_l := qB51.lt
    have qg52_s := qg52.size
    refine wpList_frame (a' := { tmps := #[.agg (cnCells c0), .pointer (some ⟨w.heap.size, 0, none⟩), .bool false, .int .i64 r, .pointer (some ⟨qw5.heap.size, 0, none⟩), .pointer (some ⟨qw13.heap.size, 0, none⟩), .pointer (some ⟨qw21.heap.size, 0, none⟩), .int .i64 (1 + 2 * c0.pn), .int .i64 (1 + 2 * D.pn), .int .i64 (1 + 2 * D.pn), .pointer (some ⟨qw48.heap.size, 0, none⟩), .agg (cnCells c0), .int .i64 1048576, .int .i64 r, .int .i64 r, .bool (decide (r < 0)), .agg (cnCells c0), .agg (cnCells { c0 with pa := some ⟨g4, 0, none⟩, pc := c0.pn }), .agg (cnCells { D with pa := some ⟨g5, 0, none⟩, pc := p5 }), .agg (cnCells c0), .agg (cnCells { c0 with pa := some ⟨g6, 0, none⟩, pc := c0.pn }), .agg (cnCells { c0 with pa := some ⟨g6, 0, none⟩, pc := c0.pn }), .agg (cnCells { D with pa := some ⟨g7, 0, none⟩, pc := p7 }), .agg (cnCells { D with pa := some ⟨g7, 0, none⟩, pc := p7 }), .agg (cnCells { D with pa := some ⟨g5, 0, none⟩, pc := p5 }), .bool true, .bool false, .agg (cnCells { c0 with pa := some ⟨g6, 0, none⟩, pc := c0.pn }), .agg (cnCells c0), .agg (cnCells { c0 with pa := some ⟨gt, 0, none⟩, pc := c0.pn }), .bool true, .bool false, .agg (cnCells { c0 with pa := some ⟨g6, 0, none⟩, pc := c0.pn }), .int .i64 1, .int .i64 (1 + 2 * c0.pn), .int .i64 (1 + 2 * c0.pn), .bool false, .bool false, .agg (cnCells { D with pa := some ⟨g7, 0, none⟩, pc := p7 }), .agg (cnCells { D with pa := some ⟨g5, 0, none⟩, pc := p5 }), .bool true, .bool false, .bool false, .agg (cnCells { D with pa := some ⟨g7, 0, none⟩, pc := p7 }), .int .i64 1, .int .i64 (1 + 2 * D.pn), .agg (cnCells { D with pa := some ⟨g7, 0, none⟩, pc := p7 }), .int .i64 1, .int .i64 (1 + 2 * D.pn), .int .i64 (1 + 2 * D.pn), .bool (decide ((1 + 2 * D.pn) < 0)), .int .i64 (1 + 2 * D.pn), .int .i64 (1 + 2 * D.pn), .bool false, .agg (cnCells c0), .agg (cnCells { c0 with pa := some ⟨g10, 0, none⟩, pc := c0.pn }), .agg (cnCells { D with pa := some ⟨g11, 0, none⟩, pc := p11 }), undef, undef, undef, undef, undef, undef, undef, undef, undef, undef, undef, undef], defers := [] }) (by kernel_rfl) ?_
    refine store_big cn_big (cn_size _) (cn_size _) (cn_one _) qB51 rfl _ _ rfl rfl rfl ?_
    intro qw53 qt54 qB55
    clear qB51
    replace A := A.touch qt54 (by omega)
    replace qB12 := qB12.touch qt54 (by omega)
    replace qB20 := qB20.touch qt54 (by omega)
    replace qB28 := qB28.touch qt54 (by omega)
    replace H4 := H4.touch qt54 (by omega)
    replace H5 := H5.touch qt54 (by omega)
    replace H6 := H6.touch qt54 (by omega)
    replace H7 := H7.touch qt54 (by omega)
    replace H10 := H10.touch qt54 (by omega)
    replace H11 := H11.touch qt54 (by omega)
    replace G := since_touch G qt54 (by omega)
    have qt54_s := qt54.size
    refine wpList_frame (a' := { tmps := #[.agg (cnCells c0), .pointer (some ⟨w.heap.size, 0, none⟩), .bool false, .int .i64 r, .pointer (some ⟨qw5.heap.size, 0, none⟩), .pointer (some ⟨qw13.heap.size, 0, none⟩), .pointer (some ⟨qw21.heap.size, 0, none⟩), .int .i64 (1 + 2 * c0.pn), .int .i64 (1 + 2 * D.pn), .int .i64 (1 + 2 * D.pn), .pointer (some ⟨qw48.heap.size, 0, none⟩), .agg (cnCells c0), .int .i64 1048576, .int .i64 r, .int .i64 r, .bool (decide (r < 0)), .agg (cnCells c0), .agg (cnCells { c0 with pa := some ⟨g4, 0, none⟩, pc := c0.pn }), .agg (cnCells { D with pa := some ⟨g5, 0, none⟩, pc := p5 }), .agg (cnCells c0), .agg (cnCells { c0 with pa := some ⟨g6, 0, none⟩, pc := c0.pn }), .agg (cnCells { c0 with pa := some ⟨g6, 0, none⟩, pc := c0.pn }), .agg (cnCells { D with pa := some ⟨g7, 0, none⟩, pc := p7 }), .agg (cnCells { D with pa := some ⟨g7, 0, none⟩, pc := p7 }), .agg (cnCells { D with pa := some ⟨g5, 0, none⟩, pc := p5 }), .bool true, .bool false, .agg (cnCells { c0 with pa := some ⟨g6, 0, none⟩, pc := c0.pn }), .agg (cnCells c0), .agg (cnCells { c0 with pa := some ⟨gt, 0, none⟩, pc := c0.pn }), .bool true, .bool false, .agg (cnCells { c0 with pa := some ⟨g6, 0, none⟩, pc := c0.pn }), .int .i64 1, .int .i64 (1 + 2 * c0.pn), .int .i64 (1 + 2 * c0.pn), .bool false, .bool false, .agg (cnCells { D with pa := some ⟨g7, 0, none⟩, pc := p7 }), .agg (cnCells { D with pa := some ⟨g5, 0, none⟩, pc := p5 }), .bool true, .bool false, .bool false, .agg (cnCells { D with pa := some ⟨g7, 0, none⟩, pc := p7 }), .int .i64 1, .int .i64 (1 + 2 * D.pn), .agg (cnCells { D with pa := some ⟨g7, 0, none⟩, pc := p7 }), .int .i64 1, .int .i64 (1 + 2 * D.pn), .int .i64 (1 + 2 * D.pn), .bool (decide ((1 + 2 * D.pn) < 0)), .int .i64 (1 + 2 * D.pn), .int .i64 (1 + 2 * D.pn), .bool false, .agg (cnCells c0), .agg (cnCells { c0 with pa := some ⟨g10, 0, none⟩, pc := c0.pn }), .agg (cnCells { D with pa := some ⟨g11, 0, none⟩, pc := p11 }), undef, undef, undef, undef, undef, undef, undef, undef, undef, undef, undef, undef], defers := [] }) (by kernel_rfl) ?_
    go_upto_region 25 with (fail)
    refine wp_region_lit ?_
    refine load_big cn_big (cn_size _) qB55 rfl _ rfl rfl ?_
    refine wpList_frame (a' := { tmps := #[.agg (cnCells c0), .pointer (some ⟨w.heap.size, 0, none⟩), .bool false, .int .i64 r, .pointer (some ⟨qw5.heap.size, 0, none⟩), .pointer (some ⟨qw13.heap.size, 0, none⟩), .pointer (some ⟨qw21.heap.size, 0, none⟩), .int .i64 (1 + 2 * c0.pn), .int .i64 (1 + 2 * D.pn), .int .i64 (1 + 2 * D.pn), .pointer (some ⟨qw48.heap.size, 0, none⟩), .agg (cnCells c0), .int .i64 1048576, .int .i64 r, .int .i64 r, .bool (decide (r < 0)), .agg (cnCells c0), .agg (cnCells { c0 with pa := some ⟨g4, 0, none⟩, pc := c0.pn }), .agg (cnCells { D with pa := some ⟨g5, 0, none⟩, pc := p5 }), .agg (cnCells c0), .agg (cnCells { c0 with pa := some ⟨g6, 0, none⟩, pc := c0.pn }), .agg (cnCells { c0 with pa := some ⟨g6, 0, none⟩, pc := c0.pn }), .agg (cnCells { D with pa := some ⟨g7, 0, none⟩, pc := p7 }), .agg (cnCells { D with pa := some ⟨g7, 0, none⟩, pc := p7 }), .agg (cnCells { D with pa := some ⟨g5, 0, none⟩, pc := p5 }), .bool true, .bool false, .agg (cnCells { c0 with pa := some ⟨g6, 0, none⟩, pc := c0.pn }), .agg (cnCells c0), .agg (cnCells { c0 with pa := some ⟨gt, 0, none⟩, pc := c0.pn }), .bool true, .bool false, .agg (cnCells { c0 with pa := some ⟨g6, 0, none⟩, pc := c0.pn }), .int .i64 1, .int .i64 (1 + 2 * c0.pn), .int .i64 (1 + 2 * c0.pn), .bool false, .bool false, .agg (cnCells { D with pa := some ⟨g7, 0, none⟩, pc := p7 }), .agg (cnCells { D with pa := some ⟨g5, 0, none⟩, pc := p5 }), .bool true, .bool false, .bool false, .agg (cnCells { D with pa := some ⟨g7, 0, none⟩, pc := p7 }), .int .i64 1, .int .i64 (1 + 2 * D.pn), .agg (cnCells { D with pa := some ⟨g7, 0, none⟩, pc := p7 }), .int .i64 1, .int .i64 (1 + 2 * D.pn), .int .i64 (1 + 2 * D.pn), .bool (decide ((1 + 2 * D.pn) < 0)), .int .i64 (1 + 2 * D.pn), .int .i64 (1 + 2 * D.pn), .bool false, .agg (cnCells c0), .agg (cnCells { c0 with pa := some ⟨g10, 0, none⟩, pc := c0.pn }), .agg (cnCells { D with pa := some ⟨g11, 0, none⟩, pc := p11 }), .agg (cnCells { D with pa := some ⟨g11, 0, none⟩, pc := p11 }), undef, undef, undef, undef, undef, undef, undef, undef, undef, undef, undef], defers := [] }) (by kernel_rfl) ?_
    refine load_big cn_big (cn_size _) qB12 rfl _ rfl rfl ?_
    refine call_step rfl 11 #[.agg (cnCells { D with pa := some ⟨g11, 0, none⟩, pc := p11 }), .agg (cnCells { D with pa := some ⟨g5, 0, none⟩, pc := p5 })] (by kernel_rfl) (kT _ _ _ _ _ _ _ H11 H5) ?_
    rintro _ qw56 ⟨rfl, qg57⟩
    refine ⟨_, rfl, ?_⟩
    replace A := A.since qg57
    replace qB12 := qB12.since qg57
    replace qB20 := qB20.since qg57
    replace qB28 := qB28.since qg57
    replace qB55 := qB55.since qg57
    replace H4 := H4.since qg57
    replace H5 := H5.since qg57
    replace H6 := H6.since qg57
    replace H7 := H7.since qg57
    replace H10 := H10.since qg57
    replace H11 := H11.since qg57
    replace G := G.trans qg57
    have qg57_s := qg57.size
    refine wpList_frame (a' := { tmps := #[.agg (cnCells c0), .pointer (some ⟨w.heap.size, 0, none⟩), .bool false, .int .i64 r, .pointer (some ⟨qw5.heap.size, 0, none⟩), .pointer (some ⟨qw13.heap.size, 0, none⟩), .pointer (some ⟨qw21.heap.size, 0, none⟩), .int .i64 (1 + 2 * c0.pn), .int .i64 (1 + 2 * D.pn), .int .i64 (1 + 2 * D.pn), .pointer (some ⟨qw48.heap.size, 0, none⟩), .agg (cnCells c0), .int .i64 1048576, .int .i64 r, .int .i64 r, .bool (decide (r < 0)), .agg (cnCells c0), .agg (cnCells { c0 with pa := some ⟨g4, 0, none⟩, pc := c0.pn }), .agg (cnCells { D with pa := some ⟨g5, 0, none⟩, pc := p5 }), .agg (cnCells c0), .agg (cnCells { c0 with pa := some ⟨g6, 0, none⟩, pc := c0.pn }), .agg (cnCells { c0 with pa := some ⟨g6, 0, none⟩, pc := c0.pn }), .agg (cnCells { D with pa := some ⟨g7, 0, none⟩, pc := p7 }), .agg (cnCells { D with pa := some ⟨g7, 0, none⟩, pc := p7 }), .agg (cnCells { D with pa := some ⟨g5, 0, none⟩, pc := p5 }), .bool true, .bool false, .agg (cnCells { c0 with pa := some ⟨g6, 0, none⟩, pc := c0.pn }), .agg (cnCells c0), .agg (cnCells { c0 with pa := some ⟨gt, 0, none⟩, pc := c0.pn }), .bool true, .bool false, .agg (cnCells { c0 with pa := some ⟨g6, 0, none⟩, pc := c0.pn }), .int .i64 1, .int .i64 (1 + 2 * c0.pn), .int .i64 (1 + 2 * c0.pn), .bool false, .bool false, .agg (cnCells { D with pa := some ⟨g7, 0, none⟩, pc := p7 }), .agg (cnCells { D with pa := some ⟨g5, 0, none⟩, pc := p5 }), .bool true, .bool false, .bool false, .agg (cnCells { D with pa := some ⟨g7, 0, none⟩, pc := p7 }), .int .i64 1, .int .i64 (1 + 2 * D.pn), .agg (cnCells { D with pa := some ⟨g7, 0, none⟩, pc := p7 }), .int .i64 1, .int .i64 (1 + 2 * D.pn), .int .i64 (1 + 2 * D.pn), .bool (decide ((1 + 2 * D.pn) < 0)), .int .i64 (1 + 2 * D.pn), .int .i64 (1 + 2 * D.pn), .bool false, .agg (cnCells c0), .agg (cnCells { c0 with pa := some ⟨g10, 0, none⟩, pc := c0.pn }), .agg (cnCells { D with pa := some ⟨g11, 0, none⟩, pc := p11 }), .agg (cnCells { D with pa := some ⟨g11, 0, none⟩, pc := p11 }), .agg (cnCells { D with pa := some ⟨g5, 0, none⟩, pc := p5 }), .bool true, undef, undef, undef, undef, undef, undef, undef, undef, undef], defers := [] }) (by kernel_rfl) ?_
    refine step_val (w' := qw56) rfl (.bool false) (by kernel_rfl) ?_
    refine wpList_frame (a' := { tmps := #[.agg (cnCells c0), .pointer (some ⟨w.heap.size, 0, none⟩), .bool false, .int .i64 r, .pointer (some ⟨qw5.heap.size, 0, none⟩), .pointer (some ⟨qw13.heap.size, 0, none⟩), .pointer (some ⟨qw21.heap.size, 0, none⟩), .int .i64 (1 + 2 * c0.pn), .int .i64 (1 + 2 * D.pn), .int .i64 (1 + 2 * D.pn), .pointer (some ⟨qw48.heap.size, 0, none⟩), .agg (cnCells c0), .int .i64 1048576, .int .i64 r, .int .i64 r, .bool (decide (r < 0)), .agg (cnCells c0), .agg (cnCells { c0 with pa := some ⟨g4, 0, none⟩, pc := c0.pn }), .agg (cnCells { D with pa := some ⟨g5, 0, none⟩, pc := p5 }), .agg (cnCells c0), .agg (cnCells { c0 with pa := some ⟨g6, 0, none⟩, pc := c0.pn }), .agg (cnCells { c0 with pa := some ⟨g6, 0, none⟩, pc := c0.pn }), .agg (cnCells { D with pa := some ⟨g7, 0, none⟩, pc := p7 }), .agg (cnCells { D with pa := some ⟨g7, 0, none⟩, pc := p7 }), .agg (cnCells { D with pa := some ⟨g5, 0, none⟩, pc := p5 }), .bool true, .bool false, .agg (cnCells { c0 with pa := some ⟨g6, 0, none⟩, pc := c0.pn }), .agg (cnCells c0), .agg (cnCells { c0 with pa := some ⟨gt, 0, none⟩, pc := c0.pn }), .bool true, .bool false, .agg (cnCells { c0 with pa := some ⟨g6, 0, none⟩, pc := c0.pn }), .int .i64 1, .int .i64 (1 + 2 * c0.pn), .int .i64 (1 + 2 * c0.pn), .bool false, .bool false, .agg (cnCells { D with pa := some ⟨g7, 0, none⟩, pc := p7 }), .agg (cnCells { D with pa := some ⟨g5, 0, none⟩, pc := p5 }), .bool true, .bool false, .bool false, .agg (cnCells { D with pa := some ⟨g7, 0, none⟩, pc := p7 }), .int .i64 1, .int .i64 (1 + 2 * D.pn), .agg (cnCells { D with pa := some ⟨g7, 0, none⟩, pc := p7 }), .int .i64 1, .int .i64 (1 + 2 * D.pn), .int .i64 (1 + 2 * D.pn), .bool (decide ((1 + 2 * D.pn) < 0)), .int .i64 (1 + 2 * D.pn), .int .i64 (1 + 2 * D.pn), .bool false, .agg (cnCells c0), .agg (cnCells { c0 with pa := some ⟨g10, 0, none⟩, pc := c0.pn }), .agg (cnCells { D with pa := some ⟨g11, 0, none⟩, pc := p11 }), .agg (cnCells { D with pa := some ⟨g11, 0, none⟩, pc := p11 }), .agg (cnCells { D with pa := some ⟨g5, 0, none⟩, pc := p5 }), .bool true, .bool false, undef, undef, undef, undef, undef, undef, undef, undef], defers := [] }) (by kernel_rfl) ?_
    go_upto_region 28 with (fail)
    refine wp_region_lit ?_
    refine load_big cn_big (cn_size _) qB28 rfl _ rfl rfl ?_
    refine move_step rfl _ rfl ?_
    refine wpList_frame (a' := { tmps := #[.agg (cnCells c0), .pointer (some ⟨w.heap.size, 0, none⟩), .bool false, .int .i64 r, .pointer (some ⟨qw5.heap.size, 0, none⟩), .pointer (some ⟨qw13.heap.size, 0, none⟩), .pointer (some ⟨qw21.heap.size, 0, none⟩), .int .i64 (1 + 2 * c0.pn), .int .i64 (1 + 2 * D.pn), .int .i64 1, .pointer (some ⟨qw48.heap.size, 0, none⟩), .agg (cnCells c0), .int .i64 1048576, .int .i64 r, .int .i64 r, .bool (decide (r < 0)), .agg (cnCells c0), .agg (cnCells { c0 with pa := some ⟨g4, 0, none⟩, pc := c0.pn }), .agg (cnCells { D with pa := some ⟨g5, 0, none⟩, pc := p5 }), .agg (cnCells c0), .agg (cnCells { c0 with pa := some ⟨g6, 0, none⟩, pc := c0.pn }), .agg (cnCells { c0 with pa := some ⟨g6, 0, none⟩, pc := c0.pn }), .agg (cnCells { D with pa := some ⟨g7, 0, none⟩, pc := p7 }), .agg (cnCells { D with pa := some ⟨g7, 0, none⟩, pc := p7 }), .agg (cnCells { D with pa := some ⟨g5, 0, none⟩, pc := p5 }), .bool true, .bool false, .agg (cnCells { c0 with pa := some ⟨g6, 0, none⟩, pc := c0.pn }), .agg (cnCells c0), .agg (cnCells { c0 with pa := some ⟨gt, 0, none⟩, pc := c0.pn }), .bool true, .bool false, .agg (cnCells { c0 with pa := some ⟨g6, 0, none⟩, pc := c0.pn }), .int .i64 1, .int .i64 (1 + 2 * c0.pn), .int .i64 (1 + 2 * c0.pn), .bool false, .bool false, .agg (cnCells { D with pa := some ⟨g7, 0, none⟩, pc := p7 }), .agg (cnCells { D with pa := some ⟨g5, 0, none⟩, pc := p5 }), .bool true, .bool false, .bool false, .agg (cnCells { D with pa := some ⟨g7, 0, none⟩, pc := p7 }), .int .i64 1, .int .i64 (1 + 2 * D.pn), .agg (cnCells { D with pa := some ⟨g7, 0, none⟩, pc := p7 }), .int .i64 1, .int .i64 (1 + 2 * D.pn), .int .i64 (1 + 2 * D.pn), .bool (decide ((1 + 2 * D.pn) < 0)), .int .i64 (1 + 2 * D.pn), .int .i64 (1 + 2 * D.pn), .bool false, .agg (cnCells c0), .agg (cnCells { c0 with pa := some ⟨g10, 0, none⟩, pc := c0.pn }), .agg (cnCells { D with pa := some ⟨g11, 0, none⟩, pc := p11 }), .agg (cnCells { D with pa := some ⟨g11, 0, none⟩, pc := p11 }), .agg (cnCells { D with pa := some ⟨g5, 0, none⟩, pc := p5 }), .bool true, .bool false, .agg (cnCells { D with pa := some ⟨g7, 0, none⟩, pc := p7 }), .int .i64 1, undef, undef, undef, undef, undef, undef], defers := [] }) (by kernel_rfl) ?_
    refine call_step rfl 13 #[.agg (cnCells { D with pa := some ⟨g7, 0, none⟩, pc := p7 }), .int .i64 1] (by kernel_rfl) (heldCn D g7 _ _ _ 1 (by omega) (by omega) _ H7 hM9) ?_
    rintro _ qw58 ⟨rfl, qg59⟩
    refine ⟨_, rfl, ?_⟩
    replace A := A.since qg59
    replace qB12 := qB12.since qg59
    replace qB20 := qB20.since qg59
    replace qB28 := qB28.since qg59
    replace qB55 := qB55.since qg59
    replace H4 := H4.since qg59
    replace H5 := H5.since qg59
    replace H6 := H6.since qg59
    replace H7 := H7.since qg59
    replace H10 := H10.since qg59
    replace H11 := H11.since qg59
    replace G := G.trans qg59
    have qg59_s := qg59.size
    refine step_val (w' := qw58) rfl (.int .i64 (1 + 2 * D.pn)) (by kernel_rfl) ?_
    refine wpList_frame (a' := { tmps := #[.agg (cnCells c0), .pointer (some ⟨w.heap.size, 0, none⟩), .bool false, .int .i64 r, .pointer (some ⟨qw5.heap.size, 0, none⟩), .pointer (some ⟨qw13.heap.size, 0, none⟩), .pointer (some ⟨qw21.heap.size, 0, none⟩), .int .i64 (1 + 2 * c0.pn), .int .i64 (1 + 2 * D.pn), .int .i64 (1 + 2 * D.pn), .pointer (some ⟨qw48.heap.size, 0, none⟩), .agg (cnCells c0), .int .i64 1048576, .int .i64 r, .int .i64 r, .bool (decide (r < 0)), .agg (cnCells c0), .agg (cnCells { c0 with pa := some ⟨g4, 0, none⟩, pc := c0.pn }), .agg (cnCells { D with pa := some ⟨g5, 0, none⟩, pc := p5 }), .agg (cnCells c0), .agg (cnCells { c0 with pa := some ⟨g6, 0, none⟩, pc := c0.pn }), .agg (cnCells { c0 with pa := some ⟨g6, 0, none⟩, pc := c0.pn }), .agg (cnCells { D with pa := some ⟨g7, 0, none⟩, pc := p7 }), .agg (cnCells { D with pa := some ⟨g7, 0, none⟩, pc := p7 }), .agg (cnCells { D with pa := some ⟨g5, 0, none⟩, pc := p5 }), .bool true, .bool false, .agg (cnCells { c0 with pa := some ⟨g6, 0, none⟩, pc := c0.pn }), .agg (cnCells c0), .agg (cnCells { c0 with pa := some ⟨gt, 0, none⟩, pc := c0.pn }), .bool true, .bool false, .agg (cnCells { c0 with pa := some ⟨g6, 0, none⟩, pc := c0.pn }), .int .i64 1, .int .i64 (1 + 2 * c0.pn), .int .i64 (1 + 2 * c0.pn), .bool false, .bool false, .agg (cnCells { D with pa := some ⟨g7, 0, none⟩, pc := p7 }), .agg (cnCells { D with pa := some ⟨g5, 0, none⟩, pc := p5 }), .bool true, .bool false, .bool false, .agg (cnCells { D with pa := some ⟨g7, 0, none⟩, pc := p7 }), .int .i64 1, .int .i64 (1 + 2 * D.pn), .agg (cnCells { D with pa := some ⟨g7, 0, none⟩, pc := p7 }), .int .i64 1, .int .i64 (1 + 2 * D.pn), .int .i64 (1 + 2 * D.pn), .bool (decide ((1 + 2 * D.pn) < 0)), .int .i64 (1 + 2 * D.pn), .int .i64 (1 + 2 * D.pn), .bool false, .agg (cnCells c0), .agg (cnCells { c0 with pa := some ⟨g10, 0, none⟩, pc := c0.pn }), .agg (cnCells { D with pa := some ⟨g11, 0, none⟩, pc := p11 }), .agg (cnCells { D with pa := some ⟨g11, 0, none⟩, pc := p11 }), .agg (cnCells { D with pa := some ⟨g5, 0, none⟩, pc := p5 }), .bool true, .bool false, .agg (cnCells { D with pa := some ⟨g7, 0, none⟩, pc := p7 }), .int .i64 1, .int .i64 (1 + 2 * D.pn), undef, undef, undef, undef, undef], defers := [] }) (by kernel_rfl) ?_
    go_wp2_with (fail)
    go_ret
    exact ⟨rfl, G⟩

set_option maxRecDepth 100000 in
theorem lifted (os : Os) (started : os.Started) (H : Type) (enc : TypeId × Value → H) :
    ReturnsInHanded {} Try.checked os 5 .any (Rows.fnExactConnCloseSpec.pre6 enc Try.prog Try.f5 Rows.fnExactConnCloseRow.domain false) (Rows.fnExactConnCloseSpec.post enc Try.prog Try.f5 false true false false) := by
  refine returnsInHanded_of_change (C := Try.checked) own started (by kernel_rfl) Try.func5
    (ChangeSpec.witness6 (enc := enc) (C := Try.checked) false ⟨#[], #[.agg #[.int .i64 0, .int .u32 0, .int .u32 0, .int .u32 0, .int .u32 0, .int .i64 0, .int .u32 0, .int .u32 0, .int .u32 0, .string ByteArray.empty, .int .i64 0, .int .u32 0, .string ByteArray.empty, .slice none 0 0, .int .i64 0, .bool false, .bool false, .int .u32 0, .bool false, .bool false, .int .i64 0, .int .i64 0, .int .i64 0, .int .i64 0, .int .i64 0, .int .i64 0, .bool false, .int .u32 0, .bool false, .int .u32 0, .int .i64 0, .int .i64 0, .int .i64 0, .int .i64 0, .int .i64 0, .int .i64 0, .bool false]], []⟩ 8 (by kernel_rfl) (by kernel_rfl) (by kernel_rfl) (by kernel_rfl)) ?_
  intro W base args ds gs before hval0 hW hcnd _
  have hval : ∀ (j : Nat) t v, Try.f5.params[j]? = some t → args[j]? = some v → Value.okWide Try.prog W .any base t v := hval0
  have hW' := hW
  obtain ⟨p, q, hA0, hV, rfl, hfz, hnd⟩ := hW
  have hA : DataW.TrodAll enc Try.prog W 0 (fun _ => true) true Try.f5.params.toList args.toList ds p := hA0
  rw [Try.params5] at hA hval
  obtain ⟨v0, vs0, d0, ds0, p0, q0, hargs, rfl, rfl, h0, r0⟩ := trodAll_cons hA
  obtain ⟨rfl, rfl, rfl⟩ := trodAll_nil r0
  obtain rfl : args = #[v0] := by cases args; simp_all
  obtain ⟨rfl, rfl⟩ := trodVars_none hV
  have e0 := h0
  have lt0 : ∀ x ∈ p0, x.block < W.heap.size := by obtain ⟨m, hm⟩ := e0; exact DataW.trod_lt m _ _ _ hm
  obtain ⟨cv0, pv0, rfl, R0, u0⟩ := open_conn (hval 0 33 v0 rfl rfl) h0
  clear hA0 hval0
  refine (walk cv0 pv0 W R0 u0).mono fun e W' ⟨he, bel⟩ => ?_
  subst he
  exact ⟨_, rfl, _, _, _, [], _, [], hW', trodAll_mk1 (shut_bool Try.underlying4 _), (trodAll_cons_mk (Below.trod laidOut (by kernel_rfl) (of_decide_eq_true (by kernel_rfl)) e0 bel lt0) trodAll_mk0), rfl, bel.frame _, fun h => by cases h⟩

theorem over : Rows.fnExactConnCloseRow.holds Try.pinned (OpenSpec.ofChange Rows.fnExactConnCloseSpec) :=
  OpenClaim.holds_of_wide 5 Try.f5 rfl rfl rfl rfl rfl rfl rfl ⟨rfl, rfl, rfl, rfl, rfl⟩ rfl rfl rfl rfl rfl (by kernel_rfl) Try.func5 (by kernel_rfl)
    (of_decide_eq_true (by kernel_rfl)) (by unfold Func.isWrapper; first | (rw [if_pos (by decide +kernel)]; kernel_rfl) | (rw [if_neg (by decide +kernel)]; exact ⟨rfl, rfl⟩))
    (fun os started H enc _ => lifted os started H enc)

theorem proved : Rows.FnExactConnCloseSaid := over
end Go.Proofs.Ytlccnnoofbclcaa.fnExactConnClose

namespace Go.Proofs.Ytlccnnoofbclcaa
theorem fnExactConnClose_holds : Rows.FnExactConnCloseSaid := fnExactConnClose.proved
#print axioms fnExactConnClose_holds
end Go.Proofs.Ytlccnnoofbclcaa
