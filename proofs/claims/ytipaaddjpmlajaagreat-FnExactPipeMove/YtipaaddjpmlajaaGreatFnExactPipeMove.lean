/-
  Proved: at every pipe and every two ends impl.PipeMove answers as spec.PipeMove, writes into no argument, and its answer owns its memory (the law FnExactPipeMove returns true, and its arguments read as before); no condition (of a pipe and ends of more than 1048576 bytes together the law asks nothing).
-/
import Derived.Test.YtipaaddjpmlajaaGreatRows
import Derived.Test.YtipaaddjpmlajaaGreatLaw11
import Derived.Test.YtipaaddjpmlajaaGreatSzL
import Derived.Test.YtipaaddjpmlajaaGreatMv13S
import Derived.Test.YtipaaddjpmlajaaGreatMv13I
import Derived.Test.YtipaaddjpmlajaaGreatMk13
import Derived.WalkKit
import Derived.ProofKit
import Derived.OpenShut
import Derived.ShutString
import Derived.ChangeOld
import Derived.Below
import Derived.Carry
namespace Go.Proofs.YtipaaddjpmlajaaGreat.fnExactPipeMove
open Go.ChangeShapes Go.WideShapes Go.ChangeAt Go.RowKit
open Go.ChangeMaps (open_string shut_string)
set_option linter.unusedVariables false

theorem own : ownKnob Tryz.prog.godebug = none := by kernel_rfl
theorem laidOut : laidOutB Tryz.prog = true := by kernel_rfl

theorem mvF_pn (r : Int) (d : ByteArray) (n : Int) (F : Cn) (ps : List (Int × ByteArray)) (T : Cn) (qs : List (Int × ByteArray)) : (mvF r d n F ps T qs).pn = F.pn := by
  unfold mvF
  split
  · exact read_pn _ _ _
  · rfl

theorem mvT_pn (r : Int) (d : ByteArray) (e : Bool) (n : Int) (F : Cn) (ps : List (Int × ByteArray)) (T : Cn) (qs : List (Int × ByteArray)) : (mvT r d e n F ps T qs).pn = T.pn := by
  unfold mvT shutT
  repeat' split
  · rw [close_pn, write_pn]
  · exact write_pn _ _ _
  · rfl

set_option maxHeartbeats 16000000 in
set_option maxRecDepth 20000 in
theorem walk (rm0 : Int) (d0 : ByteArray) (e0 : Bool) (n0 : Int) (c1 : Cn) (p1 : List (Int × ByteArray)) (c2 : Cn) (p2 : List (Int × ByteArray)) (w : World) (x0 : (Lit.int .i64 rm0).wf = true) (z0 : d0.size ≤ maxLen) (y0 : (Lit.int .i64 n0).wf = true) (R1 : Rd shP w c1.pa c1.pn p1) (u1 : WfC c1 p1) (R2 : Rd shP w c2.pa c2.pn p2) (u2 : WfC c2 p2) :
    Calls Tryz.prog 3 #[.agg #[.int .i64 rm0, .string d0, .bool e0, .int .i64 n0], .agg (cnCells c1), .agg (cnCells c2)] w fun e w' => e = .returned (.bool true) ∧ Below w.heap.size w w' := by
  have hzp := fun wx => szPipe rm0 d0 e0 n0 1048576 (by omega) (by unfold maxLen at z0; omega) wx
  have hto := fun wx => toPipe rm0 d0 e0 n0 wx
  unfold ppVal at hzp hto
  have G := Since.refl w
  by_cases hbig : (d0.size : Int) ≤ 1048576
  case neg =>
    rw [if_neg hbig] at hzp
    go_enter Tryz.func3, Tryz.ntmps3
    go_upto_region 0 with (fail)
    refine vR ?_
    refine vW (w.alloc (.cells #[.int .i64 rm0, .string d0, .bool e0, .int .i64 n0] 23)) (.pointer (some ⟨w.heap.size, 0, none⟩)) ?_
    have qB2 := Blk.new w #[.int .i64 rm0, .string d0, .bool e0, .int .i64 n0] 23
    have qg3 := (Since.refl w).alloc (.cells #[.int .i64 rm0, .string d0, .bool e0, .int .i64 n0] 23)
    replace G := G.trans qg3
    generalize w.alloc (.cells #[.int .i64 rm0, .string d0, .bool e0, .int .i64 n0] 23) = qw1 at  G qB2 qg3 ⊢
    have qB2_l := qB2.lt
    have qg3_s := qg3.size
    refine vW (qw1.alloc (.cells (cnCells c1) 35)) (.pointer (some ⟨qw1.heap.size, 0, none⟩)) ?_
    have qB5 := Blk.new qw1 (cnCells c1) 35
    have qg6 := (Since.refl qw1).alloc (.cells (cnCells c1) 35)
    replace qB2 := qB2.since qg6
    replace G := G.trans qg6
    generalize qw1.alloc (.cells (cnCells c1) 35) = qw4 at qB2 G qB5 qg6 ⊢
    have qB5_l := qB5.lt
    have qg6_s := qg6.size
    refine vW (qw4.alloc (.cells (cnCells c2) 35)) (.pointer (some ⟨qw4.heap.size, 0, none⟩)) ?_
    have qB8 := Blk.new qw4 (cnCells c2) 35
    have qg9 := (Since.refl qw4).alloc (.cells (cnCells c2) 35)
    replace qB2 := qB2.since qg9
    replace qB5 := qB5.since qg9
    replace G := G.trans qg9
    generalize qw4.alloc (.cells (cnCells c2) 35) = qw7 at qB2 qB5 G qB8 qg9 ⊢
    have qB8_l := qB8.lt
    have qg9_s := qg9.size
    refine vV (.bool false) ?_
    refine vE #[.agg #[.int .i64 rm0, .string d0, .bool e0, .int .i64 n0], .agg (cnCells c1), .agg (cnCells c2), .pointer (some ⟨w.heap.size, 0, none⟩), .pointer (some ⟨qw1.heap.size, 0, none⟩), .pointer (some ⟨qw4.heap.size, 0, none⟩), .bool false, undef, undef, undef, undef, undef, undef, undef, undef, undef, undef, undef, undef, undef, undef, undef, undef, undef, undef, undef, undef, undef, undef, undef, undef, undef, undef, undef, undef, undef, undef, undef, undef, undef, undef, undef, undef, undef, undef, undef, undef, undef, undef, undef, undef, undef, undef, undef, undef, undef, undef, undef, undef, undef, undef, undef, undef, undef, undef, undef, undef, undef, undef, undef, undef, undef, undef, undef, undef, undef, undef, undef, undef, undef, undef, undef, undef, undef, undef, undef, undef, undef, undef, undef, undef, undef, undef, undef, undef, undef, undef, undef, undef, undef, undef, undef, undef, undef, undef, undef, undef, undef, undef, undef, undef, undef, undef, undef, undef, undef, undef, undef, undef, undef, undef, undef, undef, undef, undef, undef, undef, undef, undef, undef, undef, undef, undef, undef, undef, undef, undef, undef, undef, undef, undef, undef, undef, undef, undef, undef, undef, undef, undef, undef, undef, undef, undef, undef, undef, undef, undef, undef, undef, undef, undef, undef, undef, undef, undef, undef, undef, undef, undef, undef, undef, undef] ?_
    go_upto_region 2 with (fail)
    refine vR ?_
    refine vB lpp_big qB2 rfl ?_
    refine vV (.int .i64 1048576) ?_
    refine vK (hzp _) ?_
    intro qw10 qg11
    replace qB2 := qB2.since qg11
    replace qB5 := qB5.since qg11
    replace qB8 := qB8.since qg11
    replace G := G.trans qg11
    have qg11_s := qg11.size
    refine vV (.int .i64 (-1)) ?_
    refine vE #[.agg #[.int .i64 rm0, .string d0, .bool e0, .int .i64 n0], .agg (cnCells c1), .agg (cnCells c2), .pointer (some ⟨w.heap.size, 0, none⟩), .pointer (some ⟨qw1.heap.size, 0, none⟩), .pointer (some ⟨qw4.heap.size, 0, none⟩), .bool false, .int .i64 (-1), undef, undef, undef, undef, undef, undef, undef, undef, undef, undef, undef, undef, undef, undef, .agg #[.int .i64 rm0, .string d0, .bool e0, .int .i64 n0], .int .i64 1048576, .int .i64 (-1), undef, undef, undef, undef, undef, undef, undef, undef, undef, undef, undef, undef, undef, undef, undef, undef, undef, undef, undef, undef, undef, undef, undef, undef, undef, undef, undef, undef, undef, undef, undef, undef, undef, undef, undef, undef, undef, undef, undef, undef, undef, undef, undef, undef, undef, undef, undef, undef, undef, undef, undef, undef, undef, undef, undef, undef, undef, undef, undef, undef, undef, undef, undef, undef, undef, undef, undef, undef, undef, undef, undef, undef, undef, undef, undef, undef, undef, undef, undef, undef, undef, undef, undef, undef, undef, undef, undef, undef, undef, undef, undef, undef, undef, undef, undef, undef, undef, undef, undef, undef, undef, undef, undef, undef, undef, undef, undef, undef, undef, undef, undef, undef, undef, undef, undef, undef, undef, undef, undef, undef, undef, undef, undef, undef, undef, undef, undef, undef, undef, undef, undef, undef, undef, undef, undef, undef, undef, undef, undef, undef, undef, undef, undef, undef, undef, undef, undef] ?_
    go_wp2_with (fail)
    go_ret
    exact ⟨rfl, G⟩
  case pos =>
  rw [if_pos hbig] at hzp
  have hl0 : (0 : Int) ≤ 1048576 - d0.size ∧ (1048576 : Int) - d0.size ≤ 1048576 := by omega
  obtain ⟨l0, hl0e⟩ : ∃ x, Hid (x = (1048576 : Int) - d0.size) := ⟨_, rfl⟩
  rw [← hl0e.out] at hzp hl0
  go_enter Tryz.func3, Tryz.ntmps3
  go_upto_region 0 with (fail)
  refine vR ?_
  refine vW (w.alloc (.cells #[.int .i64 rm0, .string d0, .bool e0, .int .i64 n0] 23)) (.pointer (some ⟨w.heap.size, 0, none⟩)) ?_
  have qB2 := Blk.new w #[.int .i64 rm0, .string d0, .bool e0, .int .i64 n0] 23
  have qg3 := (Since.refl w).alloc (.cells #[.int .i64 rm0, .string d0, .bool e0, .int .i64 n0] 23)
  replace G := G.trans qg3
  generalize w.alloc (.cells #[.int .i64 rm0, .string d0, .bool e0, .int .i64 n0] 23) = qw1 at  G qB2 qg3 ⊢
  have qB2_l := qB2.lt
  have qg3_s := qg3.size
  refine vW (qw1.alloc (.cells (cnCells c1) 35)) (.pointer (some ⟨qw1.heap.size, 0, none⟩)) ?_
  have qB5 := Blk.new qw1 (cnCells c1) 35
  have qg6 := (Since.refl qw1).alloc (.cells (cnCells c1) 35)
  replace qB2 := qB2.since qg6
  replace G := G.trans qg6
  generalize qw1.alloc (.cells (cnCells c1) 35) = qw4 at qB2 G qB5 qg6 ⊢
  have qB5_l := qB5.lt
  have qg6_s := qg6.size
  refine vW (qw4.alloc (.cells (cnCells c2) 35)) (.pointer (some ⟨qw4.heap.size, 0, none⟩)) ?_
  have qB8 := Blk.new qw4 (cnCells c2) 35
  have qg9 := (Since.refl qw4).alloc (.cells (cnCells c2) 35)
  replace qB2 := qB2.since qg9
  replace qB5 := qB5.since qg9
  replace G := G.trans qg9
  generalize qw4.alloc (.cells (cnCells c2) 35) = qw7 at qB2 qB5 G qB8 qg9 ⊢
  have qB8_l := qB8.lt
  have qg9_s := qg9.size
  refine vV (.bool false) ?_
  refine vE #[.agg #[.int .i64 rm0, .string d0, .bool e0, .int .i64 n0], .agg (cnCells c1), .agg (cnCells c2), .pointer (some ⟨w.heap.size, 0, none⟩), .pointer (some ⟨qw1.heap.size, 0, none⟩), .pointer (some ⟨qw4.heap.size, 0, none⟩), .bool false, undef, undef, undef, undef, undef, undef, undef, undef, undef, undef, undef, undef, undef, undef, undef, undef, undef, undef, undef, undef, undef, undef, undef, undef, undef, undef, undef, undef, undef, undef, undef, undef, undef, undef, undef, undef, undef, undef, undef, undef, undef, undef, undef, undef, undef, undef, undef, undef, undef, undef, undef, undef, undef, undef, undef, undef, undef, undef, undef, undef, undef, undef, undef, undef, undef, undef, undef, undef, undef, undef, undef, undef, undef, undef, undef, undef, undef, undef, undef, undef, undef, undef, undef, undef, undef, undef, undef, undef, undef, undef, undef, undef, undef, undef, undef, undef, undef, undef, undef, undef, undef, undef, undef, undef, undef, undef, undef, undef, undef, undef, undef, undef, undef, undef, undef, undef, undef, undef, undef, undef, undef, undef, undef, undef, undef, undef, undef, undef, undef, undef, undef, undef, undef, undef, undef, undef, undef, undef, undef, undef, undef, undef, undef, undef, undef, undef, undef, undef, undef, undef, undef, undef, undef, undef, undef, undef, undef, undef, undef, undef, undef, undef, undef, undef, undef] ?_
  have hS1 := fun wx (Rx : Rd shP wx c1.pa c1.pn p1) => szConnL c1 p1 l0 hl0.1 hl0.2 u1.v_oD u1.v_iD wx Rx (fun i hi => (u1.parts i hi).2)
  unfold cnVal at hS1
  go_upto_region 2 with (fail)
  refine vR ?_
  refine vB lpp_big qB2 rfl ?_
  refine vV (.int .i64 1048576) ?_
  refine vK (hzp _) ?_
  intro qw10 qg11
  replace qB2 := qB2.since qg11
  replace qB5 := qB5.since qg11
  replace qB8 := qB8.since qg11
  replace G := G.trans qg11
  have qg11_s := qg11.size
  refine vV (.int .i64 l0) ?_
  refine vE #[.agg #[.int .i64 rm0, .string d0, .bool e0, .int .i64 n0], .agg (cnCells c1), .agg (cnCells c2), .pointer (some ⟨w.heap.size, 0, none⟩), .pointer (some ⟨qw1.heap.size, 0, none⟩), .pointer (some ⟨qw4.heap.size, 0, none⟩), .bool false, .int .i64 l0, undef, undef, undef, undef, undef, undef, undef, undef, undef, undef, undef, undef, undef, undef, .agg #[.int .i64 rm0, .string d0, .bool e0, .int .i64 n0], .int .i64 1048576, .int .i64 l0, undef, undef, undef, undef, undef, undef, undef, undef, undef, undef, undef, undef, undef, undef, undef, undef, undef, undef, undef, undef, undef, undef, undef, undef, undef, undef, undef, undef, undef, undef, undef, undef, undef, undef, undef, undef, undef, undef, undef, undef, undef, undef, undef, undef, undef, undef, undef, undef, undef, undef, undef, undef, undef, undef, undef, undef, undef, undef, undef, undef, undef, undef, undef, undef, undef, undef, undef, undef, undef, undef, undef, undef, undef, undef, undef, undef, undef, undef, undef, undef, undef, undef, undef, undef, undef, undef, undef, undef, undef, undef, undef, undef, undef, undef, undef, undef, undef, undef, undef, undef, undef, undef, undef, undef, undef, undef, undef, undef, undef, undef, undef, undef, undef, undef, undef, undef, undef, undef, undef, undef, undef, undef, undef, undef, undef, undef, undef, undef, undef, undef, undef, undef, undef, undef, undef, undef, undef, undef, undef, undef, undef, undef, undef, undef, undef, undef, undef] ?_
  clear hzp
  go_upto_region 5 with (fail)
  refine vR ?_
  refine vB lcn_big qB5 (cn_size _) ?_
  refine vV (.int .i64 l0) ?_
  refine vC (hS1 _ (R1.since G)) ?_
  rintro _ qw12 ⟨⟨r1, rfl, hle1, hb1⟩, qg13⟩
  refine ⟨_, rfl, ?_⟩
  replace qB2 := qB2.since qg13
  replace qB5 := qB5.since qg13
  replace qB8 := qB8.since qg13
  replace G := G.trans qg13
  have qg13_s := qg13.size
  replace hb1 : Hid _ := hb1
  refine vV (.int .i64 r1) ?_
  refine vE #[.agg #[.int .i64 rm0, .string d0, .bool e0, .int .i64 n0], .agg (cnCells c1), .agg (cnCells c2), .pointer (some ⟨w.heap.size, 0, none⟩), .pointer (some ⟨qw1.heap.size, 0, none⟩), .pointer (some ⟨qw4.heap.size, 0, none⟩), .bool false, .int .i64 r1, undef, undef, undef, undef, undef, undef, undef, undef, undef, undef, undef, undef, undef, undef, .agg #[.int .i64 rm0, .string d0, .bool e0, .int .i64 n0], .int .i64 1048576, .int .i64 l0, .int .i64 l0, .bool (decide (l0 < 0)), .agg (cnCells c1), .int .i64 l0, .int .i64 r1, undef, undef, undef, undef, undef, undef, undef, undef, undef, undef, undef, undef, undef, undef, undef, undef, undef, undef, undef, undef, undef, undef, undef, undef, undef, undef, undef, undef, undef, undef, undef, undef, undef, undef, undef, undef, undef, undef, undef, undef, undef, undef, undef, undef, undef, undef, undef, undef, undef, undef, undef, undef, undef, undef, undef, undef, undef, undef, undef, undef, undef, undef, undef, undef, undef, undef, undef, undef, undef, undef, undef, undef, undef, undef, undef, undef, undef, undef, undef, undef, undef, undef, undef, undef, undef, undef, undef, undef, undef, undef, undef, undef, undef, undef, undef, undef, undef, undef, undef, undef, undef, undef, undef, undef, undef, undef, undef, undef, undef, undef, undef, undef, undef, undef, undef, undef, undef, undef, undef, undef, undef, undef, undef, undef, undef, undef, undef, undef, undef, undef, undef, undef, undef, undef, undef, undef, undef, undef, undef, undef, undef, undef] ?_
  clear hS1
  rcases Int.lt_or_le r1 0 with hr1 | hr1
  · go_wp2_with (fail)
    go_ret
    exact ⟨rfl, G⟩
  have hq1 := hb1.out hr1
  clear hb1
  have gF := good_of u1 ⟨by omega, by omega, by omega, fun i hi => by have := hq1.2.2.2 i hi; omega⟩
  clear hq1
  have hn1 : c1.pn ≤ 1048576 := gF.gd.hn
  have hS2 := fun wx (Rx : Rd shP wx c2.pa c2.pn p2) => szConnL c2 p2 r1 hr1 (by omega) u2.v_oD u2.v_iD wx Rx (fun i hi => (u2.parts i hi).2)
  unfold cnVal at hS2
  go_upto_region 8 with (fail)
  refine vR ?_
  refine vB lcn_big qB8 (cn_size _) ?_
  refine vV (.int .i64 r1) ?_
  refine vC (hS2 _ (R2.since G)) ?_
  rintro _ qw14 ⟨⟨r2, rfl, hle2, hb2⟩, qg15⟩
  refine ⟨_, rfl, ?_⟩
  replace qB2 := qB2.since qg15
  replace qB5 := qB5.since qg15
  replace qB8 := qB8.since qg15
  replace G := G.trans qg15
  have qg15_s := qg15.size
  replace hb2 : Hid _ := hb2
  refine vV (.int .i64 r2) ?_
  refine vE #[.agg #[.int .i64 rm0, .string d0, .bool e0, .int .i64 n0], .agg (cnCells c1), .agg (cnCells c2), .pointer (some ⟨w.heap.size, 0, none⟩), .pointer (some ⟨qw1.heap.size, 0, none⟩), .pointer (some ⟨qw4.heap.size, 0, none⟩), .bool false, .int .i64 r2, undef, undef, undef, undef, undef, undef, undef, undef, undef, undef, undef, undef, undef, undef, .agg #[.int .i64 rm0, .string d0, .bool e0, .int .i64 n0], .int .i64 1048576, .int .i64 l0, .int .i64 l0, .bool (decide (l0 < 0)), .agg (cnCells c1), .int .i64 l0, .int .i64 r1, .int .i64 r1, .bool (decide (r1 < 0)), .agg (cnCells c2), .int .i64 r1, .int .i64 r2, undef, undef, undef, undef, undef, undef, undef, undef, undef, undef, undef, undef, undef, undef, undef, undef, undef, undef, undef, undef, undef, undef, undef, undef, undef, undef, undef, undef, undef, undef, undef, undef, undef, undef, undef, undef, undef, undef, undef, undef, undef, undef, undef, undef, undef, undef, undef, undef, undef, undef, undef, undef, undef, undef, undef, undef, undef, undef, undef, undef, undef, undef, undef, undef, undef, undef, undef, undef, undef, undef, undef, undef, undef, undef, undef, undef, undef, undef, undef, undef, undef, undef, undef, undef, undef, undef, undef, undef, undef, undef, undef, undef, undef, undef, undef, undef, undef, undef, undef, undef, undef, undef, undef, undef, undef, undef, undef, undef, undef, undef, undef, undef, undef, undef, undef, undef, undef, undef, undef, undef, undef, undef, undef, undef, undef, undef, undef, undef, undef, undef, undef, undef, undef, undef, undef, undef, undef] ?_
  clear hS2
  rcases Int.lt_or_le r2 0 with hr2 | hr2
  · go_wp2_with (fail)
    go_ret
    exact ⟨rfl, G⟩
  have hq2 := hb2.out hr2
  clear hb2
  have gT := good_of u2 ⟨by omega, by omega, by omega, fun i hi => by have := hq2.2.2.2 i hi; omega⟩
  clear hq2
  have hn2 : c2.pn ≤ 1048576 := gT.gd.hn
  have hT1 := fun wx (Rx : Rd shP wx c1.pa c1.pn p1) => toConn c1 p1 hn1 wx Rx
  have hT2 := fun wx (Rx : Rd shP wx c2.pa c2.pn p2) => toConn c2 p2 hn2 wx Rx
  unfold cnVal at hT1 hT2
  have hs := fun q q2 wx Rx Ry => specMove rm0 d0 e0 n0 c1 p1 c2 p2 gF gT (by omega) q c1.pn q2 c2.pn wx Rx Ry
  have hi := fun q q2 wx Rx Ry => implMove rm0 d0 e0 n0 c1 p1 c2 p2 gF gT (by omega) q c1.pn q2 c2.pn wx Rx Ry
  have hDF := mvF_pn rm0 d0 n0 c1 p1 c2 p2
  have hDT := mvT_pn rm0 d0 e0 n0 c1 p1 c2 p2
  generalize mvD rm0 d0 n0 c1 p1 c2 p2 = xD at hs hi
  generalize mvE rm0 d0 e0 n0 c1 p1 c2 p2 = xE at hs hi
  generalize mvN rm0 d0 n0 c1 p1 c2 p2 = xN at hs hi
  generalize mvF rm0 d0 n0 c1 p1 c2 p2 = DF at hs hi hDF
  generalize mvT rm0 d0 e0 n0 c1 p1 c2 p2 = DT at hs hi hDT
  have hm1 : DF.pn ≤ 1048576 := by omega
  have hm2 : DT.pn ≤ 1048576 := by omega
  replace hDF : Hid _ := hDF
  replace hDT : Hid _ := hDT
  have he := fun wx => eqPipe rm0 xD xE xN wx
  unfold ppVal at he
  have kF := fun q q2 p p2 B B2 wx (T1 : Held shP wx B q DF.pn p p1) (T2 : Held shP wx B2 q2 DF.pn p2 p1) => eqCn DF q p q2 p2 p1 hm1 wx T1.reads T2.reads
  have kT := fun q q2 p p3 B B2 wx (T1 : Held shP wx B q DT.pn p p2) (T2 : Held shP wx B2 q2 DT.pn p3 p2) => eqCn DT q p q2 p3 p2 hm2 wx T1.reads T2.reads
  have k1 := fun q q2 p p2 wx Rx Qx => eqCn c1 q p q2 p2 p1 hn1 wx Rx Qx
  have k2 := fun q q2 p p3 wx Rx Qx => eqCn c2 q p q2 p3 p2 hn2 wx Rx Qx
  go_upto_region 11 with (fail)
  have hg_1 := G.size
  refine wp_region_low KeepsT (fun i x v => match i with
      | 0 => v = .agg #[.int .i64 rm0, .string d0, .bool e0, .int .i64 n0]
      | 1 => v = .agg #[.int .i64 rm0, .string d0, .bool e0, .int .i64 n0]
      | 2 => v = .agg (cnCells c1)
      | 3 => ∃ q, v = .agg (cnCells { c1 with pa := some ⟨q, 0, none⟩, pc := c1.pn }) ∧ Held shP x qw14.heap.size q c1.pn c1.pn p1
      | 4 => v = .agg (cnCells c2)
      | 5 => ∃ q, v = .agg (cnCells { c2 with pa := some ⟨q, 0, none⟩, pc := c2.pn }) ∧ Held shP x qw14.heap.size q c2.pn c2.pn p2
      | 6 => ∃ g1 cp1 gg1 cpp1, v = .tuple #[.agg #[.int .i64 rm0, .string xD, .bool xE, .int .i64 xN], .agg (cnCells { DF with pa := some ⟨g1, 0, none⟩, pc := cp1 }), .agg (cnCells { DT with pa := some ⟨gg1, 0, none⟩, pc := cpp1 })] ∧ Held shP x qw14.heap.size g1 c1.pn cp1 p1 ∧ Held shP x qw14.heap.size gg1 c2.pn cpp1 p2 ∧ g1 ≠ gg1
      | 7 => ∃ g1 cp1 gg1 cpp1, v = .tuple #[.agg #[.int .i64 rm0, .string xD, .bool xE, .int .i64 xN], .agg (cnCells { DF with pa := some ⟨g1, 0, none⟩, pc := cp1 }), .agg (cnCells { DT with pa := some ⟨gg1, 0, none⟩, pc := cpp1 })] ∧ Held shP x qw14.heap.size g1 c1.pn cp1 p1 ∧ Held shP x qw14.heap.size gg1 c2.pn cpp1 p2 ∧ g1 ≠ gg1
      | 11 => ∃ b, v = .pointer (some ⟨b, 0, none⟩) ∧ qw14.heap.size ≤ b ∧ Typed 38 4 b x
      | 12 => ∃ b, v = .pointer (some ⟨b, 0, none⟩) ∧ qw14.heap.size ≤ b ∧ Typed 46 37 b x
      | 13 => ∃ b, v = .pointer (some ⟨b, 0, none⟩) ∧ qw14.heap.size ≤ b ∧ Typed 46 37 b x
      | _ => True)
      (fun f vals x => Since qw14 x ∧ (f 8 = true → f 7 = true ∧ ∀ a0 a1 a2, vals 7 = .tuple #[a0, a1, a2] → vals 8 = a0) ∧ (f 9 = true → f 7 = true ∧ ∀ a0 a1 a2, vals 7 = .tuple #[a0, a1, a2] → vals 9 = a1) ∧ (f 10 = true → f 7 = true ∧ ∀ a0 a1 a2, vals 7 = .tuple #[a0, a1, a2] → vals 10 = a2) ∧ (f 11 = true → ∃ b, vals 11 = .pointer (some ⟨b, 0, none⟩) ∧ b < x.heap.size) ∧ (f 12 = true → ∃ b, vals 12 = .pointer (some ⟨b, 0, none⟩) ∧ b < x.heap.size) ∧ (f 13 = true → ∃ b, vals 13 = .pointer (some ⟨b, 0, none⟩) ∧ b < x.heap.size) ∧ (f 11 = true → f 12 = true → vals 11 ≠ vals 12) ∧ (f 11 = true → f 13 = true → vals 11 ≠ vals 13) ∧ (f 12 = true → f 13 = true → vals 12 ≠ vals 13) ∧ (f 14 = true → f 11 = true ∧ f 8 = true ∧ ∃ b cs, vals 11 = .pointer (some ⟨b, 0, none⟩) ∧ vals 8 = .agg cs ∧ Blk b x cs) ∧ (f 15 = true → f 12 = true ∧ f 9 = true ∧ ∃ b cs, vals 12 = .pointer (some ⟨b, 0, none⟩) ∧ vals 9 = .agg cs ∧ Blk b x cs) ∧ (f 16 = true → f 13 = true ∧ f 10 = true ∧ ∃ b cs, vals 13 = .pointer (some ⟨b, 0, none⟩) ∧ vals 10 = .agg cs ∧ Blk b x cs))
      (fun v => { tmps := #[.agg #[.int .i64 rm0, .string d0, .bool e0, .int .i64 n0], .agg (cnCells c1), .agg (cnCells c2), .pointer (some ⟨w.heap.size, 0, none⟩), .pointer (some ⟨qw1.heap.size, 0, none⟩), .pointer (some ⟨qw4.heap.size, 0, none⟩), .bool false, .int .i64 r2, v 11, v 12, v 13, undef, undef, undef, undef, undef, undef, undef, undef, undef, undef, undef, .agg #[.int .i64 rm0, .string d0, .bool e0, .int .i64 n0], .int .i64 1048576, .int .i64 l0, .int .i64 l0, .bool (decide (l0 < 0)), .agg (cnCells c1), .int .i64 l0, .int .i64 r1, .int .i64 r1, .bool (decide (r1 < 0)), .agg (cnCells c2), .int .i64 r1, .int .i64 r2, .int .i64 r2, .bool (decide (r2 < 0)), v 7, v 0, v 1, v 2, v 3, v 4, v 5, v 6, v 8, v 9, v 10, undef, undef, undef, undef, undef, undef, undef, undef, undef, undef, undef, undef, undef, undef, undef, undef, undef, undef, undef, undef, undef, undef, undef, undef, undef, undef, undef, undef, undef, undef, undef, undef, undef, undef, undef, undef, undef, undef, undef, undef, undef, undef, undef, undef, undef, undef, undef, undef, undef, undef, undef, undef, undef, undef, undef, undef, undef, undef, undef, undef, undef, undef, undef, undef, undef, undef, undef, undef, undef, undef, undef, undef, undef, undef, undef, undef, undef, undef, undef, undef, undef, undef, undef, undef, undef, undef, undef, undef, undef, undef, undef, undef, undef, undef, undef, undef, undef, undef, undef, undef, undef, undef, undef, undef, undef, undef, undef, undef, undef, undef, undef, undef, undef, undef, undef, undef, undef, undef, undef, undef, undef, undef, undef, undef], defers := [] }) (by kernel_rfl) (by kernel_rfl) ?_ ?_ (fun vals => by kernel_rfl) ?_ ?_
  case refine_1 =>
    intro j x y v hl hv
    match j, hv with
    | 0, hv => exact hv
    | 1, hv => exact hv
    | 2, hv => exact hv
    | 3, ⟨q, e, H⟩ => exact ⟨q, e, hl.1 _ _ _ _ _ H⟩
    | 4, hv => exact hv
    | 5, ⟨q, e, H⟩ => exact ⟨q, e, hl.1 _ _ _ _ _ H⟩
    | 6, ⟨g1, cp1, gg1, cpp1, e, H1, K1, hne1⟩ => exact ⟨g1, cp1, gg1, cpp1, e, hl.1 _ _ _ _ _ H1, hl.1 _ _ _ _ _ K1, hne1⟩
    | 7, ⟨g1, cp1, gg1, cpp1, e, H1, K1, hne1⟩ => exact ⟨g1, cp1, gg1, cpp1, e, hl.1 _ _ _ _ _ H1, hl.1 _ _ _ _ _ K1, hne1⟩
    | 11, ⟨b, e, l, t⟩ => exact ⟨b, e, l, hl.2 _ _ _ t⟩
    | 12, ⟨b, e, l, t⟩ => exact ⟨b, e, l, hl.2 _ _ _ t⟩
    | 13, ⟨b, e, l, t⟩ => exact ⟨b, e, l, hl.2 _ _ _ t⟩
    | 8, _ | 9, _ | 10, _ | 14, _ | 15, _ | 16, _ => trivial
    | n + 17, _ => trivial
  case refine_2 =>
    intro f vals hf
    exact ⟨((Since.refl _).drew), (fun h => by rw [hf 8] at h; cases h), (fun h => by rw [hf 9] at h; cases h), (fun h => by rw [hf 10] at h; cases h), (fun h => by rw [hf 11] at h; cases h), (fun h => by rw [hf 12] at h; cases h), (fun h => by rw [hf 13] at h; cases h), (fun h => by rw [hf 11] at h; cases h), (fun h => by rw [hf 11] at h; cases h), (fun h => by rw [hf 12] at h; cases h), (fun h => by rw [hf 14] at h; cases h), (fun h => by rw [hf 15] at h; cases h), (fun h => by rw [hf 16] at h; cases h)⟩
  case refine_3 =>
    repeat (first | exact eachLow_nil | refine eachLow_cons ?_ ?_)
    all_goals intro f vals x hf hr hK
    all_goals obtain ⟨k0, x0, x1, x2, b0, b1, b2, d01, d02, d12, s0, s1, s2⟩ := hK
    · obtain ⟨fa, b, ea, la, ta⟩ := hr ⟨13, .data⟩ (by simp) rfl
      obtain ⟨fe, -⟩ := hr ⟨10, .data⟩ (by simp) rfl
      obtain ⟨-, g1, cp1, gg1, cpp1, e7, -⟩ := hr ⟨7, .phase⟩ (by simp) rfl
      have ee := (x2 fe).2 _ _ _ e7
      refine does_storeT cn_big (cn_size _) ta (by decide) (cn_one _) _ _ rfl ea ee ?_
      intro z hk t B
      exact ⟨hk, ⟨since_touch k0 t la, x0, x1, x2, (fun h => by obtain ⟨b, e, l⟩ := b0 h; exact ⟨b, e, Nat.lt_of_lt_of_le l t.size⟩), (fun h => by obtain ⟨b, e, l⟩ := b1 h; exact ⟨b, e, Nat.lt_of_lt_of_le l t.size⟩), (fun h => by obtain ⟨b, e, l⟩ := b2 h; exact ⟨b, e, Nat.lt_of_lt_of_le l t.size⟩), d01, d02, d12, (fun h => by obtain ⟨f1, f2, b', cs', e1, e2, B'⟩ := s0 h; exact ⟨f1, f2, b', cs', e1, e2, B'.touch t (fun q => d02 f1 fa (by rw [e1, ea, q]))⟩), (fun h => by obtain ⟨f1, f2, b', cs', e1, e2, B'⟩ := s1 h; exact ⟨f1, f2, b', cs', e1, e2, B'.touch t (fun q => d12 f1 fa (by rw [e1, ea, q]))⟩), (fun _ => ⟨fa, fe, b, _, ea, ee, B⟩)⟩, trivial⟩
    · obtain ⟨fa, b, ea, la, ta⟩ := hr ⟨12, .data⟩ (by simp) rfl
      obtain ⟨fe, -⟩ := hr ⟨9, .data⟩ (by simp) rfl
      obtain ⟨-, g1, cp1, gg1, cpp1, e7, -⟩ := hr ⟨7, .phase⟩ (by simp) rfl
      have ee := (x1 fe).2 _ _ _ e7
      refine does_storeT cn_big (cn_size _) ta (by decide) (cn_one _) _ _ rfl ea ee ?_
      intro z hk t B
      exact ⟨hk, ⟨since_touch k0 t la, x0, x1, x2, (fun h => by obtain ⟨b, e, l⟩ := b0 h; exact ⟨b, e, Nat.lt_of_lt_of_le l t.size⟩), (fun h => by obtain ⟨b, e, l⟩ := b1 h; exact ⟨b, e, Nat.lt_of_lt_of_le l t.size⟩), (fun h => by obtain ⟨b, e, l⟩ := b2 h; exact ⟨b, e, Nat.lt_of_lt_of_le l t.size⟩), d01, d02, d12, (fun h => by obtain ⟨f1, f2, b', cs', e1, e2, B'⟩ := s0 h; exact ⟨f1, f2, b', cs', e1, e2, B'.touch t (fun q => d01 f1 fa (by rw [e1, ea, q]))⟩), (fun _ => ⟨fa, fe, b, _, ea, ee, B⟩), (fun h => by obtain ⟨f1, f2, b', cs', e1, e2, B'⟩ := s2 h; exact ⟨f1, f2, b', cs', e1, e2, B'.touch t (fun q => d12 fa f1 (by rw [e1, ea, q]))⟩)⟩, trivial⟩
    · obtain ⟨fa, b, ea, la, ta⟩ := hr ⟨11, .data⟩ (by simp) rfl
      obtain ⟨fe, -⟩ := hr ⟨8, .data⟩ (by simp) rfl
      obtain ⟨-, g1, cp1, gg1, cpp1, e7, -⟩ := hr ⟨7, .phase⟩ (by simp) rfl
      have ee := (x0 fe).2 _ _ _ e7
      refine does_storeT pp_big rfl ta (by decide) (by simp [Value.oneCell']) _ _ rfl ea ee ?_
      intro z hk t B
      exact ⟨hk, ⟨since_touch k0 t la, x0, x1, x2, (fun h => by obtain ⟨b, e, l⟩ := b0 h; exact ⟨b, e, Nat.lt_of_lt_of_le l t.size⟩), (fun h => by obtain ⟨b, e, l⟩ := b1 h; exact ⟨b, e, Nat.lt_of_lt_of_le l t.size⟩), (fun h => by obtain ⟨b, e, l⟩ := b2 h; exact ⟨b, e, Nat.lt_of_lt_of_le l t.size⟩), d01, d02, d12, (fun _ => ⟨fa, fe, b, _, ea, ee, B⟩), (fun h => by obtain ⟨f1, f2, b', cs', e1, e2, B'⟩ := s1 h; exact ⟨f1, f2, b', cs', e1, e2, B'.touch t (fun q => d01 fa f1 (by rw [e1, ea, q]))⟩), (fun h => by obtain ⟨f1, f2, b', cs', e1, e2, B'⟩ := s2 h; exact ⟨f1, f2, b', cs', e1, e2, B'.touch t (fun q => d02 fa f1 (by rw [e1, ea, q]))⟩)⟩, trivial⟩
    · have h1 := (Since.refl x).alloc (.cells (cnCells cnZero) 46)
      refine does_w (.pointer (some ⟨x.heap.size, 0, none⟩)) (x.alloc (.cells (cnCells cnZero) 46)) (by kernel_rfl) ?_
      exact ⟨KeepsT.of_since h1, ⟨k0.trans h1, x0, x1, x2, (fun h => by obtain ⟨b, e, l⟩ := b0 h; exact ⟨b, e, Nat.lt_of_lt_of_le l h1.size⟩), (fun h => by obtain ⟨b, e, l⟩ := b1 h; exact ⟨b, e, Nat.lt_of_lt_of_le l h1.size⟩), (fun _ => ⟨_, rfl, by rw [World.size_alloc] <;> omega⟩), d01, (fun h _ q => by obtain ⟨b, e, l⟩ := b0 h; have q2 : vals 11 = Value.pointer (some ⟨x.heap.size, 0, none⟩) := q; rw [e] at q2; simp at q2 <;> omega), (fun h _ q => by obtain ⟨b, e, l⟩ := b1 h; have q2 : vals 12 = Value.pointer (some ⟨x.heap.size, 0, none⟩) := q; rw [e] at q2; simp at q2 <;> omega), (fun h => by obtain ⟨f1, f2, b, cs, e1, e2, B⟩ := s0 h; exact ⟨f1, f2, b, cs, e1, e2, B.since h1⟩), (fun h => by obtain ⟨f1, f2, b, cs, e1, e2, B⟩ := s1 h; exact ⟨f1, f2, b, cs, e1, e2, B.since h1⟩), (fun h => absurd ((s2 h).1) (by rw [hf]; decide))⟩, _, rfl, k0.size, Typed.new _ _ _ (cn_size _)⟩
    · have h1 := (Since.refl x).alloc (.cells (cnCells cnZero) 46)
      refine does_w (.pointer (some ⟨x.heap.size, 0, none⟩)) (x.alloc (.cells (cnCells cnZero) 46)) (by kernel_rfl) ?_
      exact ⟨KeepsT.of_since h1, ⟨k0.trans h1, x0, x1, x2, (fun h => by obtain ⟨b, e, l⟩ := b0 h; exact ⟨b, e, Nat.lt_of_lt_of_le l h1.size⟩), (fun _ => ⟨_, rfl, by rw [World.size_alloc] <;> omega⟩), (fun h => by obtain ⟨b, e, l⟩ := b2 h; exact ⟨b, e, Nat.lt_of_lt_of_le l h1.size⟩), (fun h _ q => by obtain ⟨b, e, l⟩ := b0 h; have q2 : vals 11 = Value.pointer (some ⟨x.heap.size, 0, none⟩) := q; rw [e] at q2; simp at q2 <;> omega), d02, (fun _ h q => by obtain ⟨b, e, l⟩ := b2 h; have q2 : Value.pointer (some ⟨x.heap.size, 0, none⟩) = vals 13 := q; rw [e] at q2; simp at q2 <;> omega), (fun h => by obtain ⟨f1, f2, b, cs, e1, e2, B⟩ := s0 h; exact ⟨f1, f2, b, cs, e1, e2, B.since h1⟩), (fun h => absurd ((s1 h).1) (by rw [hf]; decide)), (fun h => by obtain ⟨f1, f2, b, cs, e1, e2, B⟩ := s2 h; exact ⟨f1, f2, b, cs, e1, e2, B.since h1⟩)⟩, _, rfl, k0.size, Typed.new _ _ _ (cn_size _)⟩
    · have h1 := (Since.refl x).alloc (.cells #[.int .i64 0, .string ByteArray.empty, .bool false, .int .i64 0] 38)
      refine does_w (.pointer (some ⟨x.heap.size, 0, none⟩)) (x.alloc (.cells #[.int .i64 0, .string ByteArray.empty, .bool false, .int .i64 0] 38)) (by kernel_rfl) ?_
      exact ⟨KeepsT.of_since h1, ⟨k0.trans h1, x0, x1, x2, (fun _ => ⟨_, rfl, by rw [World.size_alloc] <;> omega⟩), (fun h => by obtain ⟨b, e, l⟩ := b1 h; exact ⟨b, e, Nat.lt_of_lt_of_le l h1.size⟩), (fun h => by obtain ⟨b, e, l⟩ := b2 h; exact ⟨b, e, Nat.lt_of_lt_of_le l h1.size⟩), (fun _ h q => by obtain ⟨b, e, l⟩ := b1 h; have q2 : Value.pointer (some ⟨x.heap.size, 0, none⟩) = vals 12 := q; rw [e] at q2; simp at q2 <;> omega), (fun _ h q => by obtain ⟨b, e, l⟩ := b2 h; have q2 : Value.pointer (some ⟨x.heap.size, 0, none⟩) = vals 13 := q; rw [e] at q2; simp at q2 <;> omega), d12, (fun h => absurd ((s0 h).1) (by rw [hf]; decide)), (fun h => by obtain ⟨f1, f2, b, cs, e1, e2, B⟩ := s1 h; exact ⟨f1, f2, b, cs, e1, e2, B.since h1⟩), (fun h => by obtain ⟨f1, f2, b, cs, e1, e2, B⟩ := s2 h; exact ⟨f1, f2, b, cs, e1, e2, B.since h1⟩)⟩, _, rfl, k0.size, Typed.new _ _ _ rfl⟩
    · obtain ⟨f7, g1, cp1, gg1, cpp1, e7, -⟩ := hr ⟨7, .data⟩ (by simp) rfl
      replace e7 : vals 7 = .tuple #[.agg #[.int .i64 rm0, .string xD, .bool xE, .int .i64 xN], .agg (cnCells { DF with pa := some ⟨g1, 0, none⟩, pc := cp1 }), .agg (cnCells { DT with pa := some ⟨gg1, 0, none⟩, pc := cpp1 })] := e7
      refine does_v (.agg (cnCells { DT with pa := some ⟨gg1, 0, none⟩, pc := cpp1 })) ?_ ?_
      · simp [execOp, go_sem, e7]
      exact ⟨KeepsT.of_since (Since.refl _), ⟨k0, x0, x1, (fun _ => ⟨f7, fun a0 a1 a2 h => by replace h : vals 7 = .tuple #[a0, a1, a2] := h; rw [e7] at h; exact Option.some.inj (congrArg (fun q : Array Value => q[2]?) (Value.tuple.inj h))⟩), b0, b1, b2, d01, d02, d12, s0, s1, (fun h => absurd ((s2 h).2.1) (by rw [hf]; decide))⟩, trivial⟩
    · obtain ⟨f7, g1, cp1, gg1, cpp1, e7, -⟩ := hr ⟨7, .data⟩ (by simp) rfl
      replace e7 : vals 7 = .tuple #[.agg #[.int .i64 rm0, .string xD, .bool xE, .int .i64 xN], .agg (cnCells { DF with pa := some ⟨g1, 0, none⟩, pc := cp1 }), .agg (cnCells { DT with pa := some ⟨gg1, 0, none⟩, pc := cpp1 })] := e7
      refine does_v (.agg (cnCells { DF with pa := some ⟨g1, 0, none⟩, pc := cp1 })) ?_ ?_
      · simp [execOp, go_sem, e7]
      exact ⟨KeepsT.of_since (Since.refl _), ⟨k0, x0, (fun _ => ⟨f7, fun a0 a1 a2 h => by replace h : vals 7 = .tuple #[a0, a1, a2] := h; rw [e7] at h; exact Option.some.inj (congrArg (fun q : Array Value => q[1]?) (Value.tuple.inj h))⟩), x2, b0, b1, b2, d01, d02, d12, s0, (fun h => absurd ((s1 h).2.1) (by rw [hf]; decide)), s2⟩, trivial⟩
    · obtain ⟨f7, g1, cp1, gg1, cpp1, e7, -⟩ := hr ⟨7, .data⟩ (by simp) rfl
      replace e7 : vals 7 = .tuple #[.agg #[.int .i64 rm0, .string xD, .bool xE, .int .i64 xN], .agg (cnCells { DF with pa := some ⟨g1, 0, none⟩, pc := cp1 }), .agg (cnCells { DT with pa := some ⟨gg1, 0, none⟩, pc := cpp1 })] := e7
      refine does_v (.agg #[.int .i64 rm0, .string xD, .bool xE, .int .i64 xN]) ?_ ?_
      · simp [execOp, go_sem, e7]
      exact ⟨KeepsT.of_since (Since.refl _), ⟨k0, (fun _ => ⟨f7, fun a0 a1 a2 h => by replace h : vals 7 = .tuple #[a0, a1, a2] := h; rw [e7] at h; exact Option.some.inj (congrArg (fun q : Array Value => q[0]?) (Value.tuple.inj h))⟩), x1, x2, b0, b1, b2, d01, d02, d12, (fun h => absurd ((s0 h).2.1) (by rw [hf]; decide)), s1, s2⟩, trivial⟩
    · obtain ⟨f6, g1, cp1, gg1, cpp1, e6, h6⟩ := hr ⟨6, .data⟩ (by simp) rfl
      refine does_v (.tuple #[.agg #[.int .i64 rm0, .string xD, .bool xE, .int .i64 xN], .agg (cnCells { DF with pa := some ⟨g1, 0, none⟩, pc := cp1 }), .agg (cnCells { DT with pa := some ⟨gg1, 0, none⟩, pc := cpp1 })]) ?_ ?_
      · simp [execOp, go_sem, e6]
      exact ⟨KeepsT.of_since (Since.refl _), ⟨k0, (fun h => absurd ((x0 h).1) (by rw [hf]; decide)), (fun h => absurd ((x1 h).1) (by rw [hf]; decide)), (fun h => absurd ((x2 h).1) (by rw [hf]; decide)), b0, b1, b2, d01, d02, d12, s0, s1, s2⟩, g1, cp1, gg1, cpp1, rfl, h6⟩
    · have e1 : vals 1 = .agg #[.int .i64 rm0, .string d0, .bool e0, .int .i64 n0] := (hr ⟨1, .data⟩ (by simp) rfl).2
      obtain ⟨-, q, e3, H3⟩ := hr ⟨3, .data⟩ (by simp) rfl
      obtain ⟨-, q2, e5, H5⟩ := hr ⟨5, .data⟩ (by simp) rfl
      refine does_c #[vals 1, vals 3, vals 5] (hs q q2 _ H3.reads H5.reads) (by rw [e1, e3, e5]) ?_
      rintro _ x' ⟨g1, cp1, gg1, cpp1, rfl, H1, K1, hne1, h1⟩
      exact ⟨_, rfl, KeepsT.of_since h1, ⟨k0.trans h1, x0, x1, x2, (fun h => by obtain ⟨b, e, l⟩ := b0 h; exact ⟨b, e, Nat.lt_of_lt_of_le l h1.size⟩), (fun h => by obtain ⟨b, e, l⟩ := b1 h; exact ⟨b, e, Nat.lt_of_lt_of_le l h1.size⟩), (fun h => by obtain ⟨b, e, l⟩ := b2 h; exact ⟨b, e, Nat.lt_of_lt_of_le l h1.size⟩), d01, d02, d12, (fun h => by obtain ⟨f1, f2, b, cs, e1, e2, B⟩ := s0 h; exact ⟨f1, f2, b, cs, e1, e2, B.since h1⟩), (fun h => by obtain ⟨f1, f2, b, cs, e1, e2, B⟩ := s1 h; exact ⟨f1, f2, b, cs, e1, e2, B.since h1⟩), (fun h => by obtain ⟨f1, f2, b, cs, e1, e2, B⟩ := s2 h; exact ⟨f1, f2, b, cs, e1, e2, B.since h1⟩)⟩, g1, cp1, gg1, cpp1, rfl, H1.raise (by have := H1.low'; have := k0.size; omega), K1.raise (by have := K1.low'; have := k0.size; omega), hne1⟩
    · have e4 : vals 4 = .agg (cnCells c2) := (hr ⟨4, .data⟩ (by simp) rfl).2
      refine does_c #[vals 4] (hT2 _ (R2.since (G.trans k0))) (by rw [e4]) ?_
      rintro _ x' ⟨q, rfl, H, h1⟩
      exact ⟨_, rfl, KeepsT.of_since h1, ⟨k0.trans h1, x0, x1, x2, (fun h => by obtain ⟨b, e, l⟩ := b0 h; exact ⟨b, e, Nat.lt_of_lt_of_le l h1.size⟩), (fun h => by obtain ⟨b, e, l⟩ := b1 h; exact ⟨b, e, Nat.lt_of_lt_of_le l h1.size⟩), (fun h => by obtain ⟨b, e, l⟩ := b2 h; exact ⟨b, e, Nat.lt_of_lt_of_le l h1.size⟩), d01, d02, d12, (fun h => by obtain ⟨f1, f2, b, cs, e1, e2, B⟩ := s0 h; exact ⟨f1, f2, b, cs, e1, e2, B.since h1⟩), (fun h => by obtain ⟨f1, f2, b, cs, e1, e2, B⟩ := s1 h; exact ⟨f1, f2, b, cs, e1, e2, B.since h1⟩), (fun h => by obtain ⟨f1, f2, b, cs, e1, e2, B⟩ := s2 h; exact ⟨f1, f2, b, cs, e1, e2, B.since h1⟩)⟩, q, rfl, H.raise (by have := H.low'; have := k0.size; omega)⟩
    · exact does_load lcn_big (cn_size _) (qB8.since k0) _ rfl rfl ⟨KeepsT.of_since (Since.refl _), ⟨k0, x0, x1, x2, b0, b1, b2, d01, d02, d12, s0, s1, s2⟩, rfl⟩
    · have e2 : vals 2 = .agg (cnCells c1) := (hr ⟨2, .data⟩ (by simp) rfl).2
      refine does_c #[vals 2] (hT1 _ (R1.since (G.trans k0))) (by rw [e2]) ?_
      rintro _ x' ⟨q, rfl, H, h1⟩
      exact ⟨_, rfl, KeepsT.of_since h1, ⟨k0.trans h1, x0, x1, x2, (fun h => by obtain ⟨b, e, l⟩ := b0 h; exact ⟨b, e, Nat.lt_of_lt_of_le l h1.size⟩), (fun h => by obtain ⟨b, e, l⟩ := b1 h; exact ⟨b, e, Nat.lt_of_lt_of_le l h1.size⟩), (fun h => by obtain ⟨b, e, l⟩ := b2 h; exact ⟨b, e, Nat.lt_of_lt_of_le l h1.size⟩), d01, d02, d12, (fun h => by obtain ⟨f1, f2, b, cs, e1, e2, B⟩ := s0 h; exact ⟨f1, f2, b, cs, e1, e2, B.since h1⟩), (fun h => by obtain ⟨f1, f2, b, cs, e1, e2, B⟩ := s1 h; exact ⟨f1, f2, b, cs, e1, e2, B.since h1⟩), (fun h => by obtain ⟨f1, f2, b, cs, e1, e2, B⟩ := s2 h; exact ⟨f1, f2, b, cs, e1, e2, B.since h1⟩)⟩, q, rfl, H.raise (by have := H.low'; have := k0.size; omega)⟩
    · exact does_load lcn_big (cn_size _) (qB5.since k0) _ rfl rfl ⟨KeepsT.of_since (Since.refl _), ⟨k0, x0, x1, x2, b0, b1, b2, d01, d02, d12, s0, s1, s2⟩, rfl⟩
    · have e0 : vals 0 = .agg #[.int .i64 rm0, .string d0, .bool e0, .int .i64 n0] := (hr ⟨0, .data⟩ (by simp) rfl).2
      refine does_c #[vals 0] (hto _) (by rw [e0]) ?_
      rintro _ x' ⟨rfl, h1⟩
      exact ⟨_, rfl, KeepsT.of_since h1, ⟨k0.trans h1, x0, x1, x2, (fun h => by obtain ⟨b, e, l⟩ := b0 h; exact ⟨b, e, Nat.lt_of_lt_of_le l h1.size⟩), (fun h => by obtain ⟨b, e, l⟩ := b1 h; exact ⟨b, e, Nat.lt_of_lt_of_le l h1.size⟩), (fun h => by obtain ⟨b, e, l⟩ := b2 h; exact ⟨b, e, Nat.lt_of_lt_of_le l h1.size⟩), d01, d02, d12, (fun h => by obtain ⟨f1, f2, b, cs, e1, e2, B⟩ := s0 h; exact ⟨f1, f2, b, cs, e1, e2, B.since h1⟩), (fun h => by obtain ⟨f1, f2, b, cs, e1, e2, B⟩ := s1 h; exact ⟨f1, f2, b, cs, e1, e2, B.since h1⟩), (fun h => by obtain ⟨f1, f2, b, cs, e1, e2, B⟩ := s2 h; exact ⟨f1, f2, b, cs, e1, e2, B.since h1⟩)⟩, rfl⟩
    · exact does_load lpp_big rfl (qB2.since k0) _ rfl rfl ⟨KeepsT.of_since (Since.refl _), ⟨k0, x0, x1, x2, b0, b1, b2, d01, d02, d12, s0, s1, s2⟩, rfl⟩
  case refine_4 =>
    intro f qv17 qw16 hK hf hv
    obtain ⟨k0, x0, x1, x2, b0, b1, b2, d01, d02, d12, s0, s1, s2⟩ := hK
    have hv0 : qv17 0 = _ := hv 0 (by decide)
    have hv1 : qv17 1 = _ := hv 1 (by decide)
    have hv2 : qv17 2 = _ := hv 2 (by decide)
    obtain ⟨qf3r11, hv3, -⟩ := hv 3 (by decide)
    have hv4 : qv17 4 = _ := hv 4 (by decide)
    obtain ⟨qf5r11, hv5, -⟩ := hv 5 (by decide)
    obtain ⟨g1c, cp1c, gg1c, cpp1c, hv6, -⟩ := hv 6 (by decide)
    obtain ⟨g1, cp1, gg1, cpp1, hv7, H1, K1, hne1⟩ := hv 7 (by decide)
    have hv8 := (x0 (hf 8 (by decide))).2 _ _ _ hv7
    have hv9 := (x1 (hf 9 (by decide))).2 _ _ _ hv7
    have hv10 := (x2 (hf 10 (by decide))).2 _ _ _ hv7
    obtain ⟨-, -, qx18, cs0, hv11, ec, qB21⟩ := s0 (hf 14 (by decide))
    rw [hv8] at ec
    obtain rfl := Value.agg.inj ec
    clear ec
    obtain ⟨bb, eb, lb, tb⟩ := hv 11 (by decide)
    rw [hv11] at eb
    obtain rfl : qx18 = bb := by simpa using eb
    have H1_qx18 := typed_ne H1 tb (by decide)
    have K1_qx18 := typed_ne K1 tb (by decide)
    have qx18_b := lb
    clear eb lb tb
    have qB21_l := qB21.lt
    obtain ⟨-, -, qx19, cs1, hv12, ec, qB22⟩ := s1 (hf 15 (by decide))
    rw [hv9] at ec
    obtain rfl := Value.agg.inj ec
    clear ec
    obtain ⟨bb, eb, lb, tb⟩ := hv 12 (by decide)
    rw [hv12] at eb
    obtain rfl : qx19 = bb := by simpa using eb
    have H1_qx19 := typed_ne H1 tb (by decide)
    have K1_qx19 := typed_ne K1 tb (by decide)
    have qx19_b := lb
    clear eb lb tb
    have qB22_l := qB22.lt
    obtain ⟨-, -, qx20, cs2, hv13, ec, qB23⟩ := s2 (hf 16 (by decide))
    rw [hv10] at ec
    obtain rfl := Value.agg.inj ec
    clear ec
    obtain ⟨bb, eb, lb, tb⟩ := hv 13 (by decide)
    rw [hv13] at eb
    obtain rfl : qx20 = bb := by simpa using eb
    have H1_qx20 := typed_ne H1 tb (by decide)
    have K1_qx20 := typed_ne K1 tb (by decide)
    have qx20_b := lb
    clear eb lb tb
    have qB23_l := qB23.lt
    have qx18_qx19 : qx18 ≠ qx19 := fun q => d01 (hf 11 (by decide)) (hf 12 (by decide)) (by rw [hv11, hv12, q])
    have qx18_qx20 : qx18 ≠ qx20 := fun q => d02 (hf 11 (by decide)) (hf 13 (by decide)) (by rw [hv11, hv13, q])
    have qx19_qx20 : qx19 ≠ qx20 := fun q => d12 (hf 12 (by decide)) (hf 13 (by decide)) (by rw [hv12, hv13, q])
    clear hv x0 x1 x2 b0 b1 b2 d01 d02 d12 s0 s1 s2
    simp only [hv0, hv1, hv2, hv3, hv4, hv5, hv6, hv7, hv8, hv9, hv10, hv11, hv12, hv13]
    clear hv0 hv1 hv2 hv3 hv4 hv5 hv6 hv7 hv8 hv9 hv10 hv11 hv12 hv13
    replace qB2 := qB2.since k0
    replace qB5 := qB5.since k0
    replace qB8 := qB8.since k0
    replace G := G.trans k0
    have qw16_s := k0.size
    clear k0
    have H1_0 := H1.low'
    replace H1 := H1.raise (show w.heap.size ≤ g1 by omega)
    have H1_1 := H1.lt
    have H1_p : Held shP qw16 w.heap.size g1 DF.pn cp1 p1 := by rw [hDF.out]; exact H1
    clear H1
    have H1 := H1_p
    clear H1_p
    have K1_0 := K1.low'
    replace K1 := K1.raise (show w.heap.size ≤ gg1 by omega)
    have K1_1 := K1.lt
    have K1_p : Held shP qw16 w.heap.size gg1 DT.pn cpp1 p2 := by rw [hDT.out]; exact K1
    clear K1
    have K1 := K1_p
    clear K1_p
    go_upto_region 12 with (fail)
    refine vR ?_
    refine vB lcn_big qB5 (cn_size _) ?_
    refine vC (hT1 _ (R1.since G)) ?_
    rintro _ qw24 ⟨y1, rfl, X1, qg25⟩
    refine ⟨_, rfl, ?_⟩
    replace qB2 := qB2.since qg25
    replace qB5 := qB5.since qg25
    replace qB8 := qB8.since qg25
    replace qB21 := qB21.since qg25
    replace qB22 := qB22.since qg25
    replace qB23 := qB23.since qg25
    replace H1 := H1.since qg25
    replace K1 := K1.since qg25
    replace G := G.trans qg25
    have qg25_s := qg25.size
    have X1_0 := X1.low'
    replace X1 := X1.raise (show w.heap.size ≤ y1 by omega)
    have X1_1 := X1.lt
    refine vW (qw24.alloc (.cells (cnCells cnZero) 46)) (.pointer (some ⟨qw24.heap.size, 0, none⟩)) ?_
    have qB27 := Blk.new qw24 (cnCells cnZero) 46
    have qg28 := (Since.refl qw24).alloc (.cells (cnCells cnZero) 46)
    replace qB2 := qB2.since qg28
    replace qB5 := qB5.since qg28
    replace qB8 := qB8.since qg28
    replace qB21 := qB21.since qg28
    replace qB22 := qB22.since qg28
    replace qB23 := qB23.since qg28
    replace H1 := H1.since qg28
    replace K1 := K1.since qg28
    replace X1 := X1.since qg28
    replace G := G.trans qg28
    generalize qw24.alloc (.cells (cnCells cnZero) 46) = qw26 at qB2 qB5 qB8 qB21 qB22 qB23 H1 K1 X1 G qB27 qg28 ⊢
    have qB27_l := qB27.lt
    have qg28_s := qg28.size
    refine sB (cnCells { c1 with pa := some ⟨y1, 0, none⟩, pc := c1.pn }) cn_big qB27 (cn_size _) (cn_size _) (cn_one _) ?_
    intro qw29 qt30 qB31
    clear qB27
    replace qB2 := qB2.touch qt30 (by omega)
    replace qB5 := qB5.touch qt30 (by omega)
    replace qB8 := qB8.touch qt30 (by omega)
    replace qB21 := qB21.touch qt30 (by omega)
    replace qB22 := qB22.touch qt30 (by omega)
    replace qB23 := qB23.touch qt30 (by omega)
    replace H1 := H1.touch qt30 (by omega)
    replace K1 := K1.touch qt30 (by omega)
    replace X1 := X1.touch qt30 (by omega)
    replace G := since_touch G qt30 (by omega)
    have qt30_s := qt30.size
    refine vE #[.agg #[.int .i64 rm0, .string d0, .bool e0, .int .i64 n0], .agg (cnCells c1), .agg (cnCells c2), .pointer (some ⟨w.heap.size, 0, none⟩), .pointer (some ⟨qw1.heap.size, 0, none⟩), .pointer (some ⟨qw4.heap.size, 0, none⟩), .bool false, .int .i64 r2, .pointer (some ⟨qx18, 0, none⟩), .pointer (some ⟨qx19, 0, none⟩), .pointer (some ⟨qx20, 0, none⟩), .pointer (some ⟨qw24.heap.size, 0, none⟩), undef, undef, undef, undef, undef, undef, undef, undef, undef, undef, .agg #[.int .i64 rm0, .string d0, .bool e0, .int .i64 n0], .int .i64 1048576, .int .i64 l0, .int .i64 l0, .bool (decide (l0 < 0)), .agg (cnCells c1), .int .i64 l0, .int .i64 r1, .int .i64 r1, .bool (decide (r1 < 0)), .agg (cnCells c2), .int .i64 r1, .int .i64 r2, .int .i64 r2, .bool (decide (r2 < 0)), .tuple #[.agg #[.int .i64 rm0, .string xD, .bool xE, .int .i64 xN], .agg (cnCells { DF with pa := some ⟨g1, 0, none⟩, pc := cp1 }), .agg (cnCells { DT with pa := some ⟨gg1, 0, none⟩, pc := cpp1 })], .agg #[.int .i64 rm0, .string d0, .bool e0, .int .i64 n0], .agg #[.int .i64 rm0, .string d0, .bool e0, .int .i64 n0], .agg (cnCells c1), .agg (cnCells { c1 with pa := some ⟨qf3r11, 0, none⟩, pc := c1.pn }), .agg (cnCells c2), .agg (cnCells { c2 with pa := some ⟨qf5r11, 0, none⟩, pc := c2.pn }), .tuple #[.agg #[.int .i64 rm0, .string xD, .bool xE, .int .i64 xN], .agg (cnCells { DF with pa := some ⟨g1c, 0, none⟩, pc := cp1c }), .agg (cnCells { DT with pa := some ⟨gg1c, 0, none⟩, pc := cpp1c })], .agg #[.int .i64 rm0, .string xD, .bool xE, .int .i64 xN], .agg (cnCells { DF with pa := some ⟨g1, 0, none⟩, pc := cp1 }), .agg (cnCells { DT with pa := some ⟨gg1, 0, none⟩, pc := cpp1 }), .agg (cnCells c1), .agg (cnCells { c1 with pa := some ⟨y1, 0, none⟩, pc := c1.pn }), undef, undef, undef, undef, undef, undef, undef, undef, undef, undef, undef, undef, undef, undef, undef, undef, undef, undef, undef, undef, undef, undef, undef, undef, undef, undef, undef, undef, undef, undef, undef, undef, undef, undef, undef, undef, undef, undef, undef, undef, undef, undef, undef, undef, undef, undef, undef, undef, undef, undef, undef, undef, undef, undef, undef, undef, undef, undef, undef, undef, undef, undef, undef, undef, undef, undef, undef, undef, undef, undef, undef, undef, undef, undef, undef, undef, undef, undef, undef, undef, undef, undef, undef, undef, undef, undef, undef, undef, undef, undef, undef, undef, undef, undef, undef, undef, undef, undef, undef, undef, undef, undef, undef, undef, undef, undef, undef, undef, undef, undef, undef, undef, undef, undef, undef, undef, undef, undef, undef, undef, undef, undef] ?_
    go_upto_region 13 with (fail)
    refine vR ?_
    refine vB lcn_big qB8 (cn_size _) ?_
    refine vC (hT2 _ (R2.since G)) ?_
    rintro _ qw32 ⟨y2, rfl, X2, qg33⟩
    refine ⟨_, rfl, ?_⟩
    replace qB2 := qB2.since qg33
    replace qB5 := qB5.since qg33
    replace qB8 := qB8.since qg33
    replace qB21 := qB21.since qg33
    replace qB22 := qB22.since qg33
    replace qB23 := qB23.since qg33
    replace qB31 := qB31.since qg33
    replace H1 := H1.since qg33
    replace K1 := K1.since qg33
    replace X1 := X1.since qg33
    replace G := G.trans qg33
    have qg33_s := qg33.size
    have X2_0 := X2.low'
    replace X2 := X2.raise (show w.heap.size ≤ y2 by omega)
    have X2_1 := X2.lt
    refine vW (qw32.alloc (.cells (cnCells cnZero) 46)) (.pointer (some ⟨qw32.heap.size, 0, none⟩)) ?_
    have qB35 := Blk.new qw32 (cnCells cnZero) 46
    have qg36 := (Since.refl qw32).alloc (.cells (cnCells cnZero) 46)
    replace qB2 := qB2.since qg36
    replace qB5 := qB5.since qg36
    replace qB8 := qB8.since qg36
    replace qB21 := qB21.since qg36
    replace qB22 := qB22.since qg36
    replace qB23 := qB23.since qg36
    replace qB31 := qB31.since qg36
    replace H1 := H1.since qg36
    replace K1 := K1.since qg36
    replace X1 := X1.since qg36
    replace X2 := X2.since qg36
    replace G := G.trans qg36
    generalize qw32.alloc (.cells (cnCells cnZero) 46) = qw34 at qB2 qB5 qB8 qB21 qB22 qB23 qB31 H1 K1 X1 X2 G qB35 qg36 ⊢
    have qB35_l := qB35.lt
    have qg36_s := qg36.size
    refine sB (cnCells { c2 with pa := some ⟨y2, 0, none⟩, pc := c2.pn }) cn_big qB35 (cn_size _) (cn_size _) (cn_one _) ?_
    intro qw37 qt38 qB39
    clear qB35
    replace qB2 := qB2.touch qt38 (by omega)
    replace qB5 := qB5.touch qt38 (by omega)
    replace qB8 := qB8.touch qt38 (by omega)
    replace qB21 := qB21.touch qt38 (by omega)
    replace qB22 := qB22.touch qt38 (by omega)
    replace qB23 := qB23.touch qt38 (by omega)
    replace qB31 := qB31.touch qt38 (by omega)
    replace H1 := H1.touch qt38 (by omega)
    replace K1 := K1.touch qt38 (by omega)
    replace X1 := X1.touch qt38 (by omega)
    replace X2 := X2.touch qt38 (by omega)
    replace G := since_touch G qt38 (by omega)
    have qt38_s := qt38.size
    refine vE #[.agg #[.int .i64 rm0, .string d0, .bool e0, .int .i64 n0], .agg (cnCells c1), .agg (cnCells c2), .pointer (some ⟨w.heap.size, 0, none⟩), .pointer (some ⟨qw1.heap.size, 0, none⟩), .pointer (some ⟨qw4.heap.size, 0, none⟩), .bool false, .int .i64 r2, .pointer (some ⟨qx18, 0, none⟩), .pointer (some ⟨qx19, 0, none⟩), .pointer (some ⟨qx20, 0, none⟩), .pointer (some ⟨qw24.heap.size, 0, none⟩), .pointer (some ⟨qw32.heap.size, 0, none⟩), undef, undef, undef, undef, undef, undef, undef, undef, undef, .agg #[.int .i64 rm0, .string d0, .bool e0, .int .i64 n0], .int .i64 1048576, .int .i64 l0, .int .i64 l0, .bool (decide (l0 < 0)), .agg (cnCells c1), .int .i64 l0, .int .i64 r1, .int .i64 r1, .bool (decide (r1 < 0)), .agg (cnCells c2), .int .i64 r1, .int .i64 r2, .int .i64 r2, .bool (decide (r2 < 0)), .tuple #[.agg #[.int .i64 rm0, .string xD, .bool xE, .int .i64 xN], .agg (cnCells { DF with pa := some ⟨g1, 0, none⟩, pc := cp1 }), .agg (cnCells { DT with pa := some ⟨gg1, 0, none⟩, pc := cpp1 })], .agg #[.int .i64 rm0, .string d0, .bool e0, .int .i64 n0], .agg #[.int .i64 rm0, .string d0, .bool e0, .int .i64 n0], .agg (cnCells c1), .agg (cnCells { c1 with pa := some ⟨qf3r11, 0, none⟩, pc := c1.pn }), .agg (cnCells c2), .agg (cnCells { c2 with pa := some ⟨qf5r11, 0, none⟩, pc := c2.pn }), .tuple #[.agg #[.int .i64 rm0, .string xD, .bool xE, .int .i64 xN], .agg (cnCells { DF with pa := some ⟨g1c, 0, none⟩, pc := cp1c }), .agg (cnCells { DT with pa := some ⟨gg1c, 0, none⟩, pc := cpp1c })], .agg #[.int .i64 rm0, .string xD, .bool xE, .int .i64 xN], .agg (cnCells { DF with pa := some ⟨g1, 0, none⟩, pc := cp1 }), .agg (cnCells { DT with pa := some ⟨gg1, 0, none⟩, pc := cpp1 }), .agg (cnCells c1), .agg (cnCells { c1 with pa := some ⟨y1, 0, none⟩, pc := c1.pn }), .agg (cnCells c2), .agg (cnCells { c2 with pa := some ⟨y2, 0, none⟩, pc := c2.pn }), undef, undef, undef, undef, undef, undef, undef, undef, undef, undef, undef, undef, undef, undef, undef, undef, undef, undef, undef, undef, undef, undef, undef, undef, undef, undef, undef, undef, undef, undef, undef, undef, undef, undef, undef, undef, undef, undef, undef, undef, undef, undef, undef, undef, undef, undef, undef, undef, undef, undef, undef, undef, undef, undef, undef, undef, undef, undef, undef, undef, undef, undef, undef, undef, undef, undef, undef, undef, undef, undef, undef, undef, undef, undef, undef, undef, undef, undef, undef, undef, undef, undef, undef, undef, undef, undef, undef, undef, undef, undef, undef, undef, undef, undef, undef, undef, undef, undef, undef, undef, undef, undef, undef, undef, undef, undef, undef, undef, undef, undef, undef, undef, undef, undef, undef, undef, undef, undef, undef, undef] ?_
    go_upto_region 14 with (fail)
    have hg_2 := G.size
    refine wp_region_low KeepsT (fun i x v => match i with
        | 0 => v = .agg #[.int .i64 rm0, .string d0, .bool e0, .int .i64 n0]
        | 1 => v = .agg #[.int .i64 rm0, .string d0, .bool e0, .int .i64 n0]
        | 2 => v = .agg (cnCells { c1 with pa := some ⟨y1, 0, none⟩, pc := c1.pn })
        | 3 => v = .agg (cnCells { c2 with pa := some ⟨y2, 0, none⟩, pc := c2.pn })
        | 4 => ∃ g2 cp2 gg2 cpp2, v = .tuple #[.agg #[.int .i64 rm0, .string xD, .bool xE, .int .i64 xN], .agg (cnCells { DF with pa := some ⟨g2, 0, none⟩, pc := cp2 }), .agg (cnCells { DT with pa := some ⟨gg2, 0, none⟩, pc := cpp2 })] ∧ Held shP x qw37.heap.size g2 c1.pn cp2 p1 ∧ Held shP x qw37.heap.size gg2 c2.pn cpp2 p2 ∧ g2 ≠ gg2
        | 5 => ∃ g2 cp2 gg2 cpp2, v = .tuple #[.agg #[.int .i64 rm0, .string xD, .bool xE, .int .i64 xN], .agg (cnCells { DF with pa := some ⟨g2, 0, none⟩, pc := cp2 }), .agg (cnCells { DT with pa := some ⟨gg2, 0, none⟩, pc := cpp2 })] ∧ Held shP x qw37.heap.size g2 c1.pn cp2 p1 ∧ Held shP x qw37.heap.size gg2 c2.pn cpp2 p2 ∧ g2 ≠ gg2
        | 9 => ∃ b, v = .pointer (some ⟨b, 0, none⟩) ∧ qw37.heap.size ≤ b ∧ Typed 38 4 b x
        | 10 => ∃ b, v = .pointer (some ⟨b, 0, none⟩) ∧ qw37.heap.size ≤ b ∧ Typed 46 37 b x
        | 11 => ∃ b, v = .pointer (some ⟨b, 0, none⟩) ∧ qw37.heap.size ≤ b ∧ Typed 46 37 b x
        | _ => True)
        (fun f vals x => Since qw37 x ∧ (f 6 = true → f 5 = true ∧ ∀ a0 a1 a2, vals 5 = .tuple #[a0, a1, a2] → vals 6 = a0) ∧ (f 7 = true → f 5 = true ∧ ∀ a0 a1 a2, vals 5 = .tuple #[a0, a1, a2] → vals 7 = a1) ∧ (f 8 = true → f 5 = true ∧ ∀ a0 a1 a2, vals 5 = .tuple #[a0, a1, a2] → vals 8 = a2) ∧ (f 9 = true → ∃ b, vals 9 = .pointer (some ⟨b, 0, none⟩) ∧ b < x.heap.size) ∧ (f 10 = true → ∃ b, vals 10 = .pointer (some ⟨b, 0, none⟩) ∧ b < x.heap.size) ∧ (f 11 = true → ∃ b, vals 11 = .pointer (some ⟨b, 0, none⟩) ∧ b < x.heap.size) ∧ (f 9 = true → f 10 = true → vals 9 ≠ vals 10) ∧ (f 9 = true → f 11 = true → vals 9 ≠ vals 11) ∧ (f 10 = true → f 11 = true → vals 10 ≠ vals 11) ∧ (f 12 = true → f 9 = true ∧ f 6 = true ∧ ∃ b cs, vals 9 = .pointer (some ⟨b, 0, none⟩) ∧ vals 6 = .agg cs ∧ Blk b x cs) ∧ (f 13 = true → f 10 = true ∧ f 7 = true ∧ ∃ b cs, vals 10 = .pointer (some ⟨b, 0, none⟩) ∧ vals 7 = .agg cs ∧ Blk b x cs) ∧ (f 14 = true → f 11 = true ∧ f 8 = true ∧ ∃ b cs, vals 11 = .pointer (some ⟨b, 0, none⟩) ∧ vals 8 = .agg cs ∧ Blk b x cs))
        (fun v => { tmps := #[.agg #[.int .i64 rm0, .string d0, .bool e0, .int .i64 n0], .agg (cnCells c1), .agg (cnCells c2), .pointer (some ⟨w.heap.size, 0, none⟩), .pointer (some ⟨qw1.heap.size, 0, none⟩), .pointer (some ⟨qw4.heap.size, 0, none⟩), .bool false, .int .i64 r2, .pointer (some ⟨qx18, 0, none⟩), .pointer (some ⟨qx19, 0, none⟩), .pointer (some ⟨qx20, 0, none⟩), .pointer (some ⟨qw24.heap.size, 0, none⟩), .pointer (some ⟨qw32.heap.size, 0, none⟩), v 9, v 10, v 11, undef, undef, undef, undef, undef, undef, .agg #[.int .i64 rm0, .string d0, .bool e0, .int .i64 n0], .int .i64 1048576, .int .i64 l0, .int .i64 l0, .bool (decide (l0 < 0)), .agg (cnCells c1), .int .i64 l0, .int .i64 r1, .int .i64 r1, .bool (decide (r1 < 0)), .agg (cnCells c2), .int .i64 r1, .int .i64 r2, .int .i64 r2, .bool (decide (r2 < 0)), .tuple #[.agg #[.int .i64 rm0, .string xD, .bool xE, .int .i64 xN], .agg (cnCells { DF with pa := some ⟨g1, 0, none⟩, pc := cp1 }), .agg (cnCells { DT with pa := some ⟨gg1, 0, none⟩, pc := cpp1 })], .agg #[.int .i64 rm0, .string d0, .bool e0, .int .i64 n0], .agg #[.int .i64 rm0, .string d0, .bool e0, .int .i64 n0], .agg (cnCells c1), .agg (cnCells { c1 with pa := some ⟨qf3r11, 0, none⟩, pc := c1.pn }), .agg (cnCells c2), .agg (cnCells { c2 with pa := some ⟨qf5r11, 0, none⟩, pc := c2.pn }), .tuple #[.agg #[.int .i64 rm0, .string xD, .bool xE, .int .i64 xN], .agg (cnCells { DF with pa := some ⟨g1c, 0, none⟩, pc := cp1c }), .agg (cnCells { DT with pa := some ⟨gg1c, 0, none⟩, pc := cpp1c })], .agg #[.int .i64 rm0, .string xD, .bool xE, .int .i64 xN], .agg (cnCells { DF with pa := some ⟨g1, 0, none⟩, pc := cp1 }), .agg (cnCells { DT with pa := some ⟨gg1, 0, none⟩, pc := cpp1 }), .agg (cnCells c1), .agg (cnCells { c1 with pa := some ⟨y1, 0, none⟩, pc := c1.pn }), .agg (cnCells c2), .agg (cnCells { c2 with pa := some ⟨y2, 0, none⟩, pc := c2.pn }), v 5, v 0, v 1, v 2, v 3, v 4, v 6, v 7, v 8, undef, undef, undef, undef, undef, undef, undef, undef, undef, undef, undef, undef, undef, undef, undef, undef, undef, undef, undef, undef, undef, undef, undef, undef, undef, undef, undef, undef, undef, undef, undef, undef, undef, undef, undef, undef, undef, undef, undef, undef, undef, undef, undef, undef, undef, undef, undef, undef, undef, undef, undef, undef, undef, undef, undef, undef, undef, undef, undef, undef, undef, undef, undef, undef, undef, undef, undef, undef, undef, undef, undef, undef, undef, undef, undef, undef, undef, undef, undef, undef, undef, undef, undef, undef, undef, undef, undef, undef, undef, undef, undef, undef, undef, undef, undef, undef, undef, undef, undef, undef, undef, undef, undef, undef, undef, undef, undef, undef, undef, undef, undef], defers := [] }) (by kernel_rfl) (by kernel_rfl) ?_ ?_ (fun vals => by kernel_rfl) ?_ ?_
    case refine_1 =>
      intro j x y v hl hv
      match j, hv with
      | 0, hv => exact hv
      | 1, hv => exact hv
      | 2, hv => exact hv
      | 3, hv => exact hv
      | 4, ⟨g2, cp2, gg2, cpp2, e, H2, K2, hne2⟩ => exact ⟨g2, cp2, gg2, cpp2, e, hl.1 _ _ _ _ _ H2, hl.1 _ _ _ _ _ K2, hne2⟩
      | 5, ⟨g2, cp2, gg2, cpp2, e, H2, K2, hne2⟩ => exact ⟨g2, cp2, gg2, cpp2, e, hl.1 _ _ _ _ _ H2, hl.1 _ _ _ _ _ K2, hne2⟩
      | 9, ⟨b, e, l, t⟩ => exact ⟨b, e, l, hl.2 _ _ _ t⟩
      | 10, ⟨b, e, l, t⟩ => exact ⟨b, e, l, hl.2 _ _ _ t⟩
      | 11, ⟨b, e, l, t⟩ => exact ⟨b, e, l, hl.2 _ _ _ t⟩
      | 6, _ | 7, _ | 8, _ | 12, _ | 13, _ | 14, _ => trivial
      | n + 15, _ => trivial
    case refine_2 =>
      intro f vals hf
      exact ⟨((Since.refl _).drew), (fun h => by rw [hf 6] at h; cases h), (fun h => by rw [hf 7] at h; cases h), (fun h => by rw [hf 8] at h; cases h), (fun h => by rw [hf 9] at h; cases h), (fun h => by rw [hf 10] at h; cases h), (fun h => by rw [hf 11] at h; cases h), (fun h => by rw [hf 9] at h; cases h), (fun h => by rw [hf 9] at h; cases h), (fun h => by rw [hf 10] at h; cases h), (fun h => by rw [hf 12] at h; cases h), (fun h => by rw [hf 13] at h; cases h), (fun h => by rw [hf 14] at h; cases h)⟩
    case refine_3 =>
      repeat (first | exact eachLow_nil | refine eachLow_cons ?_ ?_)
      all_goals intro f vals x hf hr hK
      all_goals obtain ⟨k0, x0, x1, x2, b0, b1, b2, d01, d02, d12, s0, s1, s2⟩ := hK
      · obtain ⟨fa, b, ea, la, ta⟩ := hr ⟨11, .data⟩ (by simp) rfl
        obtain ⟨fe, -⟩ := hr ⟨8, .data⟩ (by simp) rfl
        obtain ⟨-, g2, cp2, gg2, cpp2, e7, -⟩ := hr ⟨5, .phase⟩ (by simp) rfl
        have ee := (x2 fe).2 _ _ _ e7
        refine does_storeT cn_big (cn_size _) ta (by decide) (cn_one _) _ _ rfl ea ee ?_
        intro z hk t B
        exact ⟨hk, ⟨since_touch k0 t la, x0, x1, x2, (fun h => by obtain ⟨b, e, l⟩ := b0 h; exact ⟨b, e, Nat.lt_of_lt_of_le l t.size⟩), (fun h => by obtain ⟨b, e, l⟩ := b1 h; exact ⟨b, e, Nat.lt_of_lt_of_le l t.size⟩), (fun h => by obtain ⟨b, e, l⟩ := b2 h; exact ⟨b, e, Nat.lt_of_lt_of_le l t.size⟩), d01, d02, d12, (fun h => by obtain ⟨f1, f2, b', cs', e1, e2, B'⟩ := s0 h; exact ⟨f1, f2, b', cs', e1, e2, B'.touch t (fun q => d02 f1 fa (by rw [e1, ea, q]))⟩), (fun h => by obtain ⟨f1, f2, b', cs', e1, e2, B'⟩ := s1 h; exact ⟨f1, f2, b', cs', e1, e2, B'.touch t (fun q => d12 f1 fa (by rw [e1, ea, q]))⟩), (fun _ => ⟨fa, fe, b, _, ea, ee, B⟩)⟩, trivial⟩
      · obtain ⟨fa, b, ea, la, ta⟩ := hr ⟨10, .data⟩ (by simp) rfl
        obtain ⟨fe, -⟩ := hr ⟨7, .data⟩ (by simp) rfl
        obtain ⟨-, g2, cp2, gg2, cpp2, e7, -⟩ := hr ⟨5, .phase⟩ (by simp) rfl
        have ee := (x1 fe).2 _ _ _ e7
        refine does_storeT cn_big (cn_size _) ta (by decide) (cn_one _) _ _ rfl ea ee ?_
        intro z hk t B
        exact ⟨hk, ⟨since_touch k0 t la, x0, x1, x2, (fun h => by obtain ⟨b, e, l⟩ := b0 h; exact ⟨b, e, Nat.lt_of_lt_of_le l t.size⟩), (fun h => by obtain ⟨b, e, l⟩ := b1 h; exact ⟨b, e, Nat.lt_of_lt_of_le l t.size⟩), (fun h => by obtain ⟨b, e, l⟩ := b2 h; exact ⟨b, e, Nat.lt_of_lt_of_le l t.size⟩), d01, d02, d12, (fun h => by obtain ⟨f1, f2, b', cs', e1, e2, B'⟩ := s0 h; exact ⟨f1, f2, b', cs', e1, e2, B'.touch t (fun q => d01 f1 fa (by rw [e1, ea, q]))⟩), (fun _ => ⟨fa, fe, b, _, ea, ee, B⟩), (fun h => by obtain ⟨f1, f2, b', cs', e1, e2, B'⟩ := s2 h; exact ⟨f1, f2, b', cs', e1, e2, B'.touch t (fun q => d12 fa f1 (by rw [e1, ea, q]))⟩)⟩, trivial⟩
      · obtain ⟨fa, b, ea, la, ta⟩ := hr ⟨9, .data⟩ (by simp) rfl
        obtain ⟨fe, -⟩ := hr ⟨6, .data⟩ (by simp) rfl
        obtain ⟨-, g2, cp2, gg2, cpp2, e7, -⟩ := hr ⟨5, .phase⟩ (by simp) rfl
        have ee := (x0 fe).2 _ _ _ e7
        refine does_storeT pp_big rfl ta (by decide) (by simp [Value.oneCell']) _ _ rfl ea ee ?_
        intro z hk t B
        exact ⟨hk, ⟨since_touch k0 t la, x0, x1, x2, (fun h => by obtain ⟨b, e, l⟩ := b0 h; exact ⟨b, e, Nat.lt_of_lt_of_le l t.size⟩), (fun h => by obtain ⟨b, e, l⟩ := b1 h; exact ⟨b, e, Nat.lt_of_lt_of_le l t.size⟩), (fun h => by obtain ⟨b, e, l⟩ := b2 h; exact ⟨b, e, Nat.lt_of_lt_of_le l t.size⟩), d01, d02, d12, (fun _ => ⟨fa, fe, b, _, ea, ee, B⟩), (fun h => by obtain ⟨f1, f2, b', cs', e1, e2, B'⟩ := s1 h; exact ⟨f1, f2, b', cs', e1, e2, B'.touch t (fun q => d01 fa f1 (by rw [e1, ea, q]))⟩), (fun h => by obtain ⟨f1, f2, b', cs', e1, e2, B'⟩ := s2 h; exact ⟨f1, f2, b', cs', e1, e2, B'.touch t (fun q => d02 fa f1 (by rw [e1, ea, q]))⟩)⟩, trivial⟩
      · have h1 := (Since.refl x).alloc (.cells (cnCells cnZero) 46)
        refine does_w (.pointer (some ⟨x.heap.size, 0, none⟩)) (x.alloc (.cells (cnCells cnZero) 46)) (by kernel_rfl) ?_
        exact ⟨KeepsT.of_since h1, ⟨k0.trans h1, x0, x1, x2, (fun h => by obtain ⟨b, e, l⟩ := b0 h; exact ⟨b, e, Nat.lt_of_lt_of_le l h1.size⟩), (fun h => by obtain ⟨b, e, l⟩ := b1 h; exact ⟨b, e, Nat.lt_of_lt_of_le l h1.size⟩), (fun _ => ⟨_, rfl, by rw [World.size_alloc] <;> omega⟩), d01, (fun h _ q => by obtain ⟨b, e, l⟩ := b0 h; have q2 : vals 9 = Value.pointer (some ⟨x.heap.size, 0, none⟩) := q; rw [e] at q2; simp at q2 <;> omega), (fun h _ q => by obtain ⟨b, e, l⟩ := b1 h; have q2 : vals 10 = Value.pointer (some ⟨x.heap.size, 0, none⟩) := q; rw [e] at q2; simp at q2 <;> omega), (fun h => by obtain ⟨f1, f2, b, cs, e1, e2, B⟩ := s0 h; exact ⟨f1, f2, b, cs, e1, e2, B.since h1⟩), (fun h => by obtain ⟨f1, f2, b, cs, e1, e2, B⟩ := s1 h; exact ⟨f1, f2, b, cs, e1, e2, B.since h1⟩), (fun h => absurd ((s2 h).1) (by rw [hf]; decide))⟩, _, rfl, k0.size, Typed.new _ _ _ (cn_size _)⟩
      · have h1 := (Since.refl x).alloc (.cells (cnCells cnZero) 46)
        refine does_w (.pointer (some ⟨x.heap.size, 0, none⟩)) (x.alloc (.cells (cnCells cnZero) 46)) (by kernel_rfl) ?_
        exact ⟨KeepsT.of_since h1, ⟨k0.trans h1, x0, x1, x2, (fun h => by obtain ⟨b, e, l⟩ := b0 h; exact ⟨b, e, Nat.lt_of_lt_of_le l h1.size⟩), (fun _ => ⟨_, rfl, by rw [World.size_alloc] <;> omega⟩), (fun h => by obtain ⟨b, e, l⟩ := b2 h; exact ⟨b, e, Nat.lt_of_lt_of_le l h1.size⟩), (fun h _ q => by obtain ⟨b, e, l⟩ := b0 h; have q2 : vals 9 = Value.pointer (some ⟨x.heap.size, 0, none⟩) := q; rw [e] at q2; simp at q2 <;> omega), d02, (fun _ h q => by obtain ⟨b, e, l⟩ := b2 h; have q2 : Value.pointer (some ⟨x.heap.size, 0, none⟩) = vals 11 := q; rw [e] at q2; simp at q2 <;> omega), (fun h => by obtain ⟨f1, f2, b, cs, e1, e2, B⟩ := s0 h; exact ⟨f1, f2, b, cs, e1, e2, B.since h1⟩), (fun h => absurd ((s1 h).1) (by rw [hf]; decide)), (fun h => by obtain ⟨f1, f2, b, cs, e1, e2, B⟩ := s2 h; exact ⟨f1, f2, b, cs, e1, e2, B.since h1⟩)⟩, _, rfl, k0.size, Typed.new _ _ _ (cn_size _)⟩
      · have h1 := (Since.refl x).alloc (.cells #[.int .i64 0, .string ByteArray.empty, .bool false, .int .i64 0] 38)
        refine does_w (.pointer (some ⟨x.heap.size, 0, none⟩)) (x.alloc (.cells #[.int .i64 0, .string ByteArray.empty, .bool false, .int .i64 0] 38)) (by kernel_rfl) ?_
        exact ⟨KeepsT.of_since h1, ⟨k0.trans h1, x0, x1, x2, (fun _ => ⟨_, rfl, by rw [World.size_alloc] <;> omega⟩), (fun h => by obtain ⟨b, e, l⟩ := b1 h; exact ⟨b, e, Nat.lt_of_lt_of_le l h1.size⟩), (fun h => by obtain ⟨b, e, l⟩ := b2 h; exact ⟨b, e, Nat.lt_of_lt_of_le l h1.size⟩), (fun _ h q => by obtain ⟨b, e, l⟩ := b1 h; have q2 : Value.pointer (some ⟨x.heap.size, 0, none⟩) = vals 10 := q; rw [e] at q2; simp at q2 <;> omega), (fun _ h q => by obtain ⟨b, e, l⟩ := b2 h; have q2 : Value.pointer (some ⟨x.heap.size, 0, none⟩) = vals 11 := q; rw [e] at q2; simp at q2 <;> omega), d12, (fun h => absurd ((s0 h).1) (by rw [hf]; decide)), (fun h => by obtain ⟨f1, f2, b, cs, e1, e2, B⟩ := s1 h; exact ⟨f1, f2, b, cs, e1, e2, B.since h1⟩), (fun h => by obtain ⟨f1, f2, b, cs, e1, e2, B⟩ := s2 h; exact ⟨f1, f2, b, cs, e1, e2, B.since h1⟩)⟩, _, rfl, k0.size, Typed.new _ _ _ rfl⟩
      · obtain ⟨f7, g2, cp2, gg2, cpp2, e7, -⟩ := hr ⟨5, .data⟩ (by simp) rfl
        replace e7 : vals 5 = .tuple #[.agg #[.int .i64 rm0, .string xD, .bool xE, .int .i64 xN], .agg (cnCells { DF with pa := some ⟨g2, 0, none⟩, pc := cp2 }), .agg (cnCells { DT with pa := some ⟨gg2, 0, none⟩, pc := cpp2 })] := e7
        refine does_v (.agg (cnCells { DT with pa := some ⟨gg2, 0, none⟩, pc := cpp2 })) ?_ ?_
        · simp [execOp, go_sem, e7]
        exact ⟨KeepsT.of_since (Since.refl _), ⟨k0, x0, x1, (fun _ => ⟨f7, fun a0 a1 a2 h => by replace h : vals 5 = .tuple #[a0, a1, a2] := h; rw [e7] at h; exact Option.some.inj (congrArg (fun q : Array Value => q[2]?) (Value.tuple.inj h))⟩), b0, b1, b2, d01, d02, d12, s0, s1, (fun h => absurd ((s2 h).2.1) (by rw [hf]; decide))⟩, trivial⟩
      · obtain ⟨f7, g2, cp2, gg2, cpp2, e7, -⟩ := hr ⟨5, .data⟩ (by simp) rfl
        replace e7 : vals 5 = .tuple #[.agg #[.int .i64 rm0, .string xD, .bool xE, .int .i64 xN], .agg (cnCells { DF with pa := some ⟨g2, 0, none⟩, pc := cp2 }), .agg (cnCells { DT with pa := some ⟨gg2, 0, none⟩, pc := cpp2 })] := e7
        refine does_v (.agg (cnCells { DF with pa := some ⟨g2, 0, none⟩, pc := cp2 })) ?_ ?_
        · simp [execOp, go_sem, e7]
        exact ⟨KeepsT.of_since (Since.refl _), ⟨k0, x0, (fun _ => ⟨f7, fun a0 a1 a2 h => by replace h : vals 5 = .tuple #[a0, a1, a2] := h; rw [e7] at h; exact Option.some.inj (congrArg (fun q : Array Value => q[1]?) (Value.tuple.inj h))⟩), x2, b0, b1, b2, d01, d02, d12, s0, (fun h => absurd ((s1 h).2.1) (by rw [hf]; decide)), s2⟩, trivial⟩
      · obtain ⟨f7, g2, cp2, gg2, cpp2, e7, -⟩ := hr ⟨5, .data⟩ (by simp) rfl
        replace e7 : vals 5 = .tuple #[.agg #[.int .i64 rm0, .string xD, .bool xE, .int .i64 xN], .agg (cnCells { DF with pa := some ⟨g2, 0, none⟩, pc := cp2 }), .agg (cnCells { DT with pa := some ⟨gg2, 0, none⟩, pc := cpp2 })] := e7
        refine does_v (.agg #[.int .i64 rm0, .string xD, .bool xE, .int .i64 xN]) ?_ ?_
        · simp [execOp, go_sem, e7]
        exact ⟨KeepsT.of_since (Since.refl _), ⟨k0, (fun _ => ⟨f7, fun a0 a1 a2 h => by replace h : vals 5 = .tuple #[a0, a1, a2] := h; rw [e7] at h; exact Option.some.inj (congrArg (fun q : Array Value => q[0]?) (Value.tuple.inj h))⟩), x1, x2, b0, b1, b2, d01, d02, d12, (fun h => absurd ((s0 h).2.1) (by rw [hf]; decide)), s1, s2⟩, trivial⟩
      · obtain ⟨f6, g2, cp2, gg2, cpp2, e6, h6⟩ := hr ⟨4, .data⟩ (by simp) rfl
        refine does_v (.tuple #[.agg #[.int .i64 rm0, .string xD, .bool xE, .int .i64 xN], .agg (cnCells { DF with pa := some ⟨g2, 0, none⟩, pc := cp2 }), .agg (cnCells { DT with pa := some ⟨gg2, 0, none⟩, pc := cpp2 })]) ?_ ?_
        · simp [execOp, go_sem, e6]
        exact ⟨KeepsT.of_since (Since.refl _), ⟨k0, (fun h => absurd ((x0 h).1) (by rw [hf]; decide)), (fun h => absurd ((x1 h).1) (by rw [hf]; decide)), (fun h => absurd ((x2 h).1) (by rw [hf]; decide)), b0, b1, b2, d01, d02, d12, s0, s1, s2⟩, g2, cp2, gg2, cpp2, rfl, h6⟩
      · have e1 : vals 1 = .agg #[.int .i64 rm0, .string d0, .bool e0, .int .i64 n0] := (hr ⟨1, .data⟩ (by simp) rfl).2
        have e2 : vals 2 = .agg (cnCells { c1 with pa := some ⟨y1, 0, none⟩, pc := c1.pn }) := (hr ⟨2, .data⟩ (by simp) rfl).2
        have e3 : vals 3 = .agg (cnCells { c2 with pa := some ⟨y2, 0, none⟩, pc := c2.pn }) := (hr ⟨3, .data⟩ (by simp) rfl).2
        refine does_c #[vals 1, vals 2, vals 3] (hi y1 y2 _ (X1.since k0).reads (X2.since k0).reads) (by rw [e1, e2, e3]) ?_
        rintro _ x' ⟨g2, cp2, gg2, cpp2, rfl, H2, K2, hne2, h1⟩
        exact ⟨_, rfl, KeepsT.of_since h1, ⟨k0.trans h1, x0, x1, x2, (fun h => by obtain ⟨b, e, l⟩ := b0 h; exact ⟨b, e, Nat.lt_of_lt_of_le l h1.size⟩), (fun h => by obtain ⟨b, e, l⟩ := b1 h; exact ⟨b, e, Nat.lt_of_lt_of_le l h1.size⟩), (fun h => by obtain ⟨b, e, l⟩ := b2 h; exact ⟨b, e, Nat.lt_of_lt_of_le l h1.size⟩), d01, d02, d12, (fun h => by obtain ⟨f1, f2, b, cs, e1, e2, B⟩ := s0 h; exact ⟨f1, f2, b, cs, e1, e2, B.since h1⟩), (fun h => by obtain ⟨f1, f2, b, cs, e1, e2, B⟩ := s1 h; exact ⟨f1, f2, b, cs, e1, e2, B.since h1⟩), (fun h => by obtain ⟨f1, f2, b, cs, e1, e2, B⟩ := s2 h; exact ⟨f1, f2, b, cs, e1, e2, B.since h1⟩)⟩, g2, cp2, gg2, cpp2, rfl, H2.raise (by have := H2.low'; have := k0.size; omega), K2.raise (by have := K2.low'; have := k0.size; omega), hne2⟩
      · exact does_load cn_big (cn_size _) (qB39.since k0) _ rfl rfl ⟨KeepsT.of_since (Since.refl _), ⟨k0, x0, x1, x2, b0, b1, b2, d01, d02, d12, s0, s1, s2⟩, rfl⟩
      · exact does_load cn_big (cn_size _) (qB31.since k0) _ rfl rfl ⟨KeepsT.of_since (Since.refl _), ⟨k0, x0, x1, x2, b0, b1, b2, d01, d02, d12, s0, s1, s2⟩, rfl⟩
      · have e0 : vals 0 = .agg #[.int .i64 rm0, .string d0, .bool e0, .int .i64 n0] := (hr ⟨0, .data⟩ (by simp) rfl).2
        refine does_c #[vals 0] (hto _) (by rw [e0]) ?_
        rintro _ x' ⟨rfl, h1⟩
        exact ⟨_, rfl, KeepsT.of_since h1, ⟨k0.trans h1, x0, x1, x2, (fun h => by obtain ⟨b, e, l⟩ := b0 h; exact ⟨b, e, Nat.lt_of_lt_of_le l h1.size⟩), (fun h => by obtain ⟨b, e, l⟩ := b1 h; exact ⟨b, e, Nat.lt_of_lt_of_le l h1.size⟩), (fun h => by obtain ⟨b, e, l⟩ := b2 h; exact ⟨b, e, Nat.lt_of_lt_of_le l h1.size⟩), d01, d02, d12, (fun h => by obtain ⟨f1, f2, b, cs, e1, e2, B⟩ := s0 h; exact ⟨f1, f2, b, cs, e1, e2, B.since h1⟩), (fun h => by obtain ⟨f1, f2, b, cs, e1, e2, B⟩ := s1 h; exact ⟨f1, f2, b, cs, e1, e2, B.since h1⟩), (fun h => by obtain ⟨f1, f2, b, cs, e1, e2, B⟩ := s2 h; exact ⟨f1, f2, b, cs, e1, e2, B.since h1⟩)⟩, rfl⟩
      · exact does_load lpp_big rfl (qB2.since k0) _ rfl rfl ⟨KeepsT.of_since (Since.refl _), ⟨k0, x0, x1, x2, b0, b1, b2, d01, d02, d12, s0, s1, s2⟩, rfl⟩
    case refine_4 =>
      intro f qv41 qw40 hK hf hv
      obtain ⟨k0, x0, x1, x2, b0, b1, b2, d01, d02, d12, s0, s1, s2⟩ := hK
      have hv0 : qv41 0 = _ := hv 0 (by decide)
      have hv1 : qv41 1 = _ := hv 1 (by decide)
      have hv2 : qv41 2 = _ := hv 2 (by decide)
      have hv3 : qv41 3 = _ := hv 3 (by decide)
      obtain ⟨g2c, cp2c, gg2c, cpp2c, hv4, -⟩ := hv 4 (by decide)
      obtain ⟨g2, cp2, gg2, cpp2, hv5, H2, K2, hne2⟩ := hv 5 (by decide)
      have hv6 := (x0 (hf 6 (by decide))).2 _ _ _ hv5
      have hv7 := (x1 (hf 7 (by decide))).2 _ _ _ hv5
      have hv8 := (x2 (hf 8 (by decide))).2 _ _ _ hv5
      obtain ⟨-, -, qx42, cs0, hv9, ec, qB45⟩ := s0 (hf 12 (by decide))
      rw [hv6] at ec
      obtain rfl := Value.agg.inj ec
      clear ec
      obtain ⟨bb, eb, lb, tb⟩ := hv 9 (by decide)
      rw [hv9] at eb
      obtain rfl : qx42 = bb := by simpa using eb
      have H2_qx42 := typed_ne H2 tb (by decide)
      have K2_qx42 := typed_ne K2 tb (by decide)
      have qx42_b := lb
      clear eb lb tb
      have qB45_l := qB45.lt
      obtain ⟨-, -, qx43, cs1, hv10, ec, qB46⟩ := s1 (hf 13 (by decide))
      rw [hv7] at ec
      obtain rfl := Value.agg.inj ec
      clear ec
      obtain ⟨bb, eb, lb, tb⟩ := hv 10 (by decide)
      rw [hv10] at eb
      obtain rfl : qx43 = bb := by simpa using eb
      have H2_qx43 := typed_ne H2 tb (by decide)
      have K2_qx43 := typed_ne K2 tb (by decide)
      have qx43_b := lb
      clear eb lb tb
      have qB46_l := qB46.lt
      obtain ⟨-, -, qx44, cs2, hv11, ec, qB47⟩ := s2 (hf 14 (by decide))
      rw [hv8] at ec
      obtain rfl := Value.agg.inj ec
      clear ec
      obtain ⟨bb, eb, lb, tb⟩ := hv 11 (by decide)
      rw [hv11] at eb
      obtain rfl : qx44 = bb := by simpa using eb
      have H2_qx44 := typed_ne H2 tb (by decide)
      have K2_qx44 := typed_ne K2 tb (by decide)
      have qx44_b := lb
      clear eb lb tb
      have qB47_l := qB47.lt
      have qx42_qx43 : qx42 ≠ qx43 := fun q => d01 (hf 9 (by decide)) (hf 10 (by decide)) (by rw [hv9, hv10, q])
      have qx42_qx44 : qx42 ≠ qx44 := fun q => d02 (hf 9 (by decide)) (hf 11 (by decide)) (by rw [hv9, hv11, q])
      have qx43_qx44 : qx43 ≠ qx44 := fun q => d12 (hf 10 (by decide)) (hf 11 (by decide)) (by rw [hv10, hv11, q])
      clear hv x0 x1 x2 b0 b1 b2 d01 d02 d12 s0 s1 s2
      simp only [hv0, hv1, hv2, hv3, hv4, hv5, hv6, hv7, hv8, hv9, hv10, hv11]
      clear hv0 hv1 hv2 hv3 hv4 hv5 hv6 hv7 hv8 hv9 hv10 hv11
      replace qB2 := qB2.since k0
      replace qB5 := qB5.since k0
      replace qB8 := qB8.since k0
      replace qB21 := qB21.since k0
      replace qB22 := qB22.since k0
      replace qB23 := qB23.since k0
      replace qB31 := qB31.since k0
      replace qB39 := qB39.since k0
      replace H1 := H1.since k0
      replace K1 := K1.since k0
      replace X1 := X1.since k0
      replace X2 := X2.since k0
      replace G := G.trans k0
      have qw40_s := k0.size
      clear k0
      have H2_0 := H2.low'
      replace H2 := H2.raise (show w.heap.size ≤ g2 by omega)
      have H2_1 := H2.lt
      have H2_p : Held shP qw40 w.heap.size g2 DF.pn cp2 p1 := by rw [hDF.out]; exact H2
      clear H2
      have H2 := H2_p
      clear H2_p
      have K2_0 := K2.low'
      replace K2 := K2.raise (show w.heap.size ≤ gg2 by omega)
      have K2_1 := K2.lt
      have K2_p : Held shP qw40 w.heap.size gg2 DT.pn cpp2 p2 := by rw [hDT.out]; exact K2
      clear K2
      have K2 := K2_p
      clear K2_p
      go_upto_region 15 with (fail)
      refine vR ?_
      refine vB pp_big qB45 rfl ?_
      refine vB pp_big qB21 rfl ?_
      refine vK (he _) ?_
      intro qw48 qg49
      replace qB2 := qB2.since qg49
      replace qB5 := qB5.since qg49
      replace qB8 := qB8.since qg49
      replace qB21 := qB21.since qg49
      replace qB22 := qB22.since qg49
      replace qB23 := qB23.since qg49
      replace qB31 := qB31.since qg49
      replace qB39 := qB39.since qg49
      replace qB45 := qB45.since qg49
      replace qB46 := qB46.since qg49
      replace qB47 := qB47.since qg49
      replace H1 := H1.since qg49
      replace K1 := K1.since qg49
      replace X1 := X1.since qg49
      replace X2 := X2.since qg49
      replace H2 := H2.since qg49
      replace K2 := K2.since qg49
      replace G := G.trans qg49
      have qg49_s := qg49.size
      refine vV (.bool false) ?_
      refine vV (.bool false) ?_
      refine vB cn_big qB46 (cn_size _) ?_
      refine vB cn_big qB22 (cn_size _) ?_
      refine vK (kF _ _ _ _ _ _ _ H2 H1) ?_
      intro qw50 qg51
      replace qB2 := qB2.since qg51
      replace qB5 := qB5.since qg51
      replace qB8 := qB8.since qg51
      replace qB21 := qB21.since qg51
      replace qB22 := qB22.since qg51
      replace qB23 := qB23.since qg51
      replace qB31 := qB31.since qg51
      replace qB39 := qB39.since qg51
      replace qB45 := qB45.since qg51
      replace qB46 := qB46.since qg51
      replace qB47 := qB47.since qg51
      replace H1 := H1.since qg51
      replace K1 := K1.since qg51
      replace X1 := X1.since qg51
      replace X2 := X2.since qg51
      replace H2 := H2.since qg51
      replace K2 := K2.since qg51
      replace G := G.trans qg51
      have qg51_s := qg51.size
      refine vV (.bool false) ?_
      refine vV (.bool false) ?_
      refine vV (.bool false) ?_
      refine vB cn_big qB47 (cn_size _) ?_
      refine vB cn_big qB23 (cn_size _) ?_
      refine vK (kT _ _ _ _ _ _ _ K2 K1) ?_
      intro qw52 qg53
      replace qB2 := qB2.since qg53
      replace qB5 := qB5.since qg53
      replace qB8 := qB8.since qg53
      replace qB21 := qB21.since qg53
      replace qB22 := qB22.since qg53
      replace qB23 := qB23.since qg53
      replace qB31 := qB31.since qg53
      replace qB39 := qB39.since qg53
      replace qB45 := qB45.since qg53
      replace qB46 := qB46.since qg53
      replace qB47 := qB47.since qg53
      replace H1 := H1.since qg53
      replace K1 := K1.since qg53
      replace X1 := X1.since qg53
      replace X2 := X2.since qg53
      replace H2 := H2.since qg53
      replace K2 := K2.since qg53
      replace G := G.trans qg53
      have qg53_s := qg53.size
      refine vV (.bool false) ?_
      refine vV (.bool false) ?_
      refine vE #[.agg #[.int .i64 rm0, .string d0, .bool e0, .int .i64 n0], .agg (cnCells c1), .agg (cnCells c2), .pointer (some ⟨w.heap.size, 0, none⟩), .pointer (some ⟨qw1.heap.size, 0, none⟩), .pointer (some ⟨qw4.heap.size, 0, none⟩), .bool false, .int .i64 r2, .pointer (some ⟨qx18, 0, none⟩), .pointer (some ⟨qx19, 0, none⟩), .pointer (some ⟨qx20, 0, none⟩), .pointer (some ⟨qw24.heap.size, 0, none⟩), .pointer (some ⟨qw32.heap.size, 0, none⟩), .pointer (some ⟨qx42, 0, none⟩), .pointer (some ⟨qx43, 0, none⟩), .pointer (some ⟨qx44, 0, none⟩), undef, undef, undef, undef, undef, undef, .agg #[.int .i64 rm0, .string d0, .bool e0, .int .i64 n0], .int .i64 1048576, .int .i64 l0, .int .i64 l0, .bool (decide (l0 < 0)), .agg (cnCells c1), .int .i64 l0, .int .i64 r1, .int .i64 r1, .bool (decide (r1 < 0)), .agg (cnCells c2), .int .i64 r1, .int .i64 r2, .int .i64 r2, .bool (decide (r2 < 0)), .tuple #[.agg #[.int .i64 rm0, .string xD, .bool xE, .int .i64 xN], .agg (cnCells { DF with pa := some ⟨g1, 0, none⟩, pc := cp1 }), .agg (cnCells { DT with pa := some ⟨gg1, 0, none⟩, pc := cpp1 })], .agg #[.int .i64 rm0, .string d0, .bool e0, .int .i64 n0], .agg #[.int .i64 rm0, .string d0, .bool e0, .int .i64 n0], .agg (cnCells c1), .agg (cnCells { c1 with pa := some ⟨qf3r11, 0, none⟩, pc := c1.pn }), .agg (cnCells c2), .agg (cnCells { c2 with pa := some ⟨qf5r11, 0, none⟩, pc := c2.pn }), .tuple #[.agg #[.int .i64 rm0, .string xD, .bool xE, .int .i64 xN], .agg (cnCells { DF with pa := some ⟨g1c, 0, none⟩, pc := cp1c }), .agg (cnCells { DT with pa := some ⟨gg1c, 0, none⟩, pc := cpp1c })], .agg #[.int .i64 rm0, .string xD, .bool xE, .int .i64 xN], .agg (cnCells { DF with pa := some ⟨g1, 0, none⟩, pc := cp1 }), .agg (cnCells { DT with pa := some ⟨gg1, 0, none⟩, pc := cpp1 }), .agg (cnCells c1), .agg (cnCells { c1 with pa := some ⟨y1, 0, none⟩, pc := c1.pn }), .agg (cnCells c2), .agg (cnCells { c2 with pa := some ⟨y2, 0, none⟩, pc := c2.pn }), .tuple #[.agg #[.int .i64 rm0, .string xD, .bool xE, .int .i64 xN], .agg (cnCells { DF with pa := some ⟨g2, 0, none⟩, pc := cp2 }), .agg (cnCells { DT with pa := some ⟨gg2, 0, none⟩, pc := cpp2 })], .agg #[.int .i64 rm0, .string d0, .bool e0, .int .i64 n0], .agg #[.int .i64 rm0, .string d0, .bool e0, .int .i64 n0], .agg (cnCells { c1 with pa := some ⟨y1, 0, none⟩, pc := c1.pn }), .agg (cnCells { c2 with pa := some ⟨y2, 0, none⟩, pc := c2.pn }), .tuple #[.agg #[.int .i64 rm0, .string xD, .bool xE, .int .i64 xN], .agg (cnCells { DF with pa := some ⟨g2c, 0, none⟩, pc := cp2c }), .agg (cnCells { DT with pa := some ⟨gg2c, 0, none⟩, pc := cpp2c })], .agg #[.int .i64 rm0, .string xD, .bool xE, .int .i64 xN], .agg (cnCells { DF with pa := some ⟨g2, 0, none⟩, pc := cp2 }), .agg (cnCells { DT with pa := some ⟨gg2, 0, none⟩, pc := cpp2 }), .agg #[.int .i64 rm0, .string xD, .bool xE, .int .i64 xN], .agg #[.int .i64 rm0, .string xD, .bool xE, .int .i64 xN], .bool true, .bool false, .bool false, .agg (cnCells { DF with pa := some ⟨g2, 0, none⟩, pc := cp2 }), .agg (cnCells { DF with pa := some ⟨g1, 0, none⟩, pc := cp1 }), .bool true, .bool false, .bool false, .bool false, .agg (cnCells { DT with pa := some ⟨gg2, 0, none⟩, pc := cpp2 }), .agg (cnCells { DT with pa := some ⟨gg1, 0, none⟩, pc := cpp1 }), .bool true, .bool false, .bool false, undef, undef, undef, undef, undef, undef, undef, undef, undef, undef, undef, undef, undef, undef, undef, undef, undef, undef, undef, undef, undef, undef, undef, undef, undef, undef, undef, undef, undef, undef, undef, undef, undef, undef, undef, undef, undef, undef, undef, undef, undef, undef, undef, undef, undef, undef, undef, undef, undef, undef, undef, undef, undef, undef, undef, undef, undef, undef, undef, undef, undef, undef, undef, undef, undef, undef, undef, undef, undef, undef, undef, undef, undef, undef, undef, undef, undef, undef, undef, undef, undef, undef, undef, undef, undef, undef, undef, undef, undef, undef, undef, undef, undef, undef, undef] ?_
      go_upto_region 17 with (fail)
      refine wp_region_each (wb := qw52) (fun i x v => match i with
          | 0 => v = .agg (cnCells { c1 with pa := some ⟨y1, 0, none⟩, pc := c1.pn })
          | 1 => v = .agg (cnCells c1)
          | 2 => ∃ g, v = .agg (cnCells { c1 with pa := some ⟨g, 0, none⟩, pc := c1.pn }) ∧ Held shP x 0 g c1.pn c1.pn p1
          | 3 => v = .bool true
          | 4 => v = .bool false
          | _ => True) (fun v => { tmps := #[.agg #[.int .i64 rm0, .string d0, .bool e0, .int .i64 n0], .agg (cnCells c1), .agg (cnCells c2), .pointer (some ⟨w.heap.size, 0, none⟩), .pointer (some ⟨qw1.heap.size, 0, none⟩), .pointer (some ⟨qw4.heap.size, 0, none⟩), .bool false, .int .i64 r2, .pointer (some ⟨qx18, 0, none⟩), .pointer (some ⟨qx19, 0, none⟩), .pointer (some ⟨qx20, 0, none⟩), .pointer (some ⟨qw24.heap.size, 0, none⟩), .pointer (some ⟨qw32.heap.size, 0, none⟩), .pointer (some ⟨qx42, 0, none⟩), .pointer (some ⟨qx43, 0, none⟩), .pointer (some ⟨qx44, 0, none⟩), undef, undef, undef, undef, undef, undef, .agg #[.int .i64 rm0, .string d0, .bool e0, .int .i64 n0], .int .i64 1048576, .int .i64 l0, .int .i64 l0, .bool (decide (l0 < 0)), .agg (cnCells c1), .int .i64 l0, .int .i64 r1, .int .i64 r1, .bool (decide (r1 < 0)), .agg (cnCells c2), .int .i64 r1, .int .i64 r2, .int .i64 r2, .bool (decide (r2 < 0)), .tuple #[.agg #[.int .i64 rm0, .string xD, .bool xE, .int .i64 xN], .agg (cnCells { DF with pa := some ⟨g1, 0, none⟩, pc := cp1 }), .agg (cnCells { DT with pa := some ⟨gg1, 0, none⟩, pc := cpp1 })], .agg #[.int .i64 rm0, .string d0, .bool e0, .int .i64 n0], .agg #[.int .i64 rm0, .string d0, .bool e0, .int .i64 n0], .agg (cnCells c1), .agg (cnCells { c1 with pa := some ⟨qf3r11, 0, none⟩, pc := c1.pn }), .agg (cnCells c2), .agg (cnCells { c2 with pa := some ⟨qf5r11, 0, none⟩, pc := c2.pn }), .tuple #[.agg #[.int .i64 rm0, .string xD, .bool xE, .int .i64 xN], .agg (cnCells { DF with pa := some ⟨g1c, 0, none⟩, pc := cp1c }), .agg (cnCells { DT with pa := some ⟨gg1c, 0, none⟩, pc := cpp1c })], .agg #[.int .i64 rm0, .string xD, .bool xE, .int .i64 xN], .agg (cnCells { DF with pa := some ⟨g1, 0, none⟩, pc := cp1 }), .agg (cnCells { DT with pa := some ⟨gg1, 0, none⟩, pc := cpp1 }), .agg (cnCells c1), .agg (cnCells { c1 with pa := some ⟨y1, 0, none⟩, pc := c1.pn }), .agg (cnCells c2), .agg (cnCells { c2 with pa := some ⟨y2, 0, none⟩, pc := c2.pn }), .tuple #[.agg #[.int .i64 rm0, .string xD, .bool xE, .int .i64 xN], .agg (cnCells { DF with pa := some ⟨g2, 0, none⟩, pc := cp2 }), .agg (cnCells { DT with pa := some ⟨gg2, 0, none⟩, pc := cpp2 })], .agg #[.int .i64 rm0, .string d0, .bool e0, .int .i64 n0], .agg #[.int .i64 rm0, .string d0, .bool e0, .int .i64 n0], .agg (cnCells { c1 with pa := some ⟨y1, 0, none⟩, pc := c1.pn }), .agg (cnCells { c2 with pa := some ⟨y2, 0, none⟩, pc := c2.pn }), .tuple #[.agg #[.int .i64 rm0, .string xD, .bool xE, .int .i64 xN], .agg (cnCells { DF with pa := some ⟨g2c, 0, none⟩, pc := cp2c }), .agg (cnCells { DT with pa := some ⟨gg2c, 0, none⟩, pc := cpp2c })], .agg #[.int .i64 rm0, .string xD, .bool xE, .int .i64 xN], .agg (cnCells { DF with pa := some ⟨g2, 0, none⟩, pc := cp2 }), .agg (cnCells { DT with pa := some ⟨gg2, 0, none⟩, pc := cpp2 }), .agg #[.int .i64 rm0, .string xD, .bool xE, .int .i64 xN], .agg #[.int .i64 rm0, .string xD, .bool xE, .int .i64 xN], .bool true, .bool false, .bool false, .agg (cnCells { DF with pa := some ⟨g2, 0, none⟩, pc := cp2 }), .agg (cnCells { DF with pa := some ⟨g1, 0, none⟩, pc := cp1 }), .bool true, .bool false, .bool false, .bool false, .agg (cnCells { DT with pa := some ⟨gg2, 0, none⟩, pc := cpp2 }), .agg (cnCells { DT with pa := some ⟨gg1, 0, none⟩, pc := cpp1 }), .bool true, .bool false, .bool false, v 0, v 1, v 2, v 3, v 4, undef, undef, undef, undef, undef, undef, undef, undef, undef, undef, undef, undef, undef, undef, undef, undef, undef, undef, undef, undef, undef, undef, undef, undef, undef, undef, undef, undef, undef, undef, undef, undef, undef, undef, undef, undef, undef, undef, undef, undef, undef, undef, undef, undef, undef, undef, undef, undef, undef, undef, undef, undef, undef, undef, undef, undef, undef, undef, undef, undef, undef, undef, undef, undef, undef, undef, undef, undef, undef, undef, undef, undef, undef, undef, undef, undef, undef, undef, undef, undef, undef, undef, undef, undef, undef, undef, undef, undef, undef, undef], defers := [] }) (by kernel_rfl) (by kernel_rfl) (Since.refl _) ?_ (fun vals => by kernel_rfl) ?_ ?_
      case refine_1 =>
        intro j x x' v h1 h2
        match j, h2 with
        | 2, h2 =>
          obtain ⟨g, e, T⟩ := h2
          exact ⟨g, e, T.since h1⟩
        | 0, h2 | 1, h2 | 3, h2 | 4, h2 => exact h2
        | n + 5, _ => trivial
      case refine_2 =>
        repeat (first | exact eachDoes_nil | refine eachDoes_cons ?_ ?_)
        all_goals intro vals x hx hv
        all_goals simp [Region.binds] at hv
        · simp [does, doesUpon, go_sem, hv, Since.refl]
        · obtain ⟨h0, g, h2, T⟩ := hv
          simp [does, doesUpon, go_sem, h0, h2]
          refine (k1 _ _ _ _ _ (X1.since hx).reads T.reads).mono ?_
          rintro _ x' ⟨rfl, h1⟩
          simp [h1]
        · simp [does, doesUpon, go_sem, hv]
          refine (hT1 _ (R1.since (G.trans hx))).mono ?_
          rintro _ x' ⟨g, rfl, T, h1⟩
          exact ⟨_, rfl, h1, g, rfl, T.raise (Nat.zero_le _)⟩
        · exact does_load lcn_big (cn_size _) (qB5.since hx) _ rfl rfl ⟨Since.refl _, rfl⟩
        · exact does_load cn_big (cn_size _) (qB31.since hx) _ rfl rfl ⟨Since.refl _, rfl⟩
      case refine_3 =>
        intro qv56 qw54 qh55 hv
        have hv0 : qv56 0 = _ := hv 0 (by decide)
        have hv1 : qv56 1 = _ := hv 1 (by decide)
        obtain ⟨qz57, hv2, -⟩ := hv 2 (by decide)
        have hv3 : qv56 3 = _ := hv 3 (by decide)
        have hv4 : qv56 4 = _ := hv 4 (by decide)
        clear hv
        simp only [hv0, hv1, hv2, hv3, hv4]
        clear hv0 hv1 hv2 hv3 hv4
        replace qB2 := qB2.since qh55
        replace qB5 := qB5.since qh55
        replace qB8 := qB8.since qh55
        replace qB21 := qB21.since qh55
        replace qB22 := qB22.since qh55
        replace qB23 := qB23.since qh55
        replace qB31 := qB31.since qh55
        replace qB39 := qB39.since qh55
        replace qB45 := qB45.since qh55
        replace qB46 := qB46.since qh55
        replace qB47 := qB47.since qh55
        replace H1 := H1.since qh55
        replace K1 := K1.since qh55
        replace X1 := X1.since qh55
        replace X2 := X2.since qh55
        replace H2 := H2.since qh55
        replace K2 := K2.since qh55
        replace G := G.trans qh55
        have qh55_s := qh55.size
        go_upto_region 19 with (fail)
        refine wp_region_each (wb := qw54) (fun i x v => match i with
            | 0 => v = .agg (cnCells { c2 with pa := some ⟨y2, 0, none⟩, pc := c2.pn })
            | 1 => v = .agg (cnCells c2)
            | 2 => ∃ g, v = .agg (cnCells { c2 with pa := some ⟨g, 0, none⟩, pc := c2.pn }) ∧ Held shP x 0 g c2.pn c2.pn p2
            | 3 => v = .bool true
            | 4 => v = .bool false
            | _ => True) (fun v => { tmps := #[.agg #[.int .i64 rm0, .string d0, .bool e0, .int .i64 n0], .agg (cnCells c1), .agg (cnCells c2), .pointer (some ⟨w.heap.size, 0, none⟩), .pointer (some ⟨qw1.heap.size, 0, none⟩), .pointer (some ⟨qw4.heap.size, 0, none⟩), .bool false, .int .i64 r2, .pointer (some ⟨qx18, 0, none⟩), .pointer (some ⟨qx19, 0, none⟩), .pointer (some ⟨qx20, 0, none⟩), .pointer (some ⟨qw24.heap.size, 0, none⟩), .pointer (some ⟨qw32.heap.size, 0, none⟩), .pointer (some ⟨qx42, 0, none⟩), .pointer (some ⟨qx43, 0, none⟩), .pointer (some ⟨qx44, 0, none⟩), undef, undef, undef, undef, undef, undef, .agg #[.int .i64 rm0, .string d0, .bool e0, .int .i64 n0], .int .i64 1048576, .int .i64 l0, .int .i64 l0, .bool (decide (l0 < 0)), .agg (cnCells c1), .int .i64 l0, .int .i64 r1, .int .i64 r1, .bool (decide (r1 < 0)), .agg (cnCells c2), .int .i64 r1, .int .i64 r2, .int .i64 r2, .bool (decide (r2 < 0)), .tuple #[.agg #[.int .i64 rm0, .string xD, .bool xE, .int .i64 xN], .agg (cnCells { DF with pa := some ⟨g1, 0, none⟩, pc := cp1 }), .agg (cnCells { DT with pa := some ⟨gg1, 0, none⟩, pc := cpp1 })], .agg #[.int .i64 rm0, .string d0, .bool e0, .int .i64 n0], .agg #[.int .i64 rm0, .string d0, .bool e0, .int .i64 n0], .agg (cnCells c1), .agg (cnCells { c1 with pa := some ⟨qf3r11, 0, none⟩, pc := c1.pn }), .agg (cnCells c2), .agg (cnCells { c2 with pa := some ⟨qf5r11, 0, none⟩, pc := c2.pn }), .tuple #[.agg #[.int .i64 rm0, .string xD, .bool xE, .int .i64 xN], .agg (cnCells { DF with pa := some ⟨g1c, 0, none⟩, pc := cp1c }), .agg (cnCells { DT with pa := some ⟨gg1c, 0, none⟩, pc := cpp1c })], .agg #[.int .i64 rm0, .string xD, .bool xE, .int .i64 xN], .agg (cnCells { DF with pa := some ⟨g1, 0, none⟩, pc := cp1 }), .agg (cnCells { DT with pa := some ⟨gg1, 0, none⟩, pc := cpp1 }), .agg (cnCells c1), .agg (cnCells { c1 with pa := some ⟨y1, 0, none⟩, pc := c1.pn }), .agg (cnCells c2), .agg (cnCells { c2 with pa := some ⟨y2, 0, none⟩, pc := c2.pn }), .tuple #[.agg #[.int .i64 rm0, .string xD, .bool xE, .int .i64 xN], .agg (cnCells { DF with pa := some ⟨g2, 0, none⟩, pc := cp2 }), .agg (cnCells { DT with pa := some ⟨gg2, 0, none⟩, pc := cpp2 })], .agg #[.int .i64 rm0, .string d0, .bool e0, .int .i64 n0], .agg #[.int .i64 rm0, .string d0, .bool e0, .int .i64 n0], .agg (cnCells { c1 with pa := some ⟨y1, 0, none⟩, pc := c1.pn }), .agg (cnCells { c2 with pa := some ⟨y2, 0, none⟩, pc := c2.pn }), .tuple #[.agg #[.int .i64 rm0, .string xD, .bool xE, .int .i64 xN], .agg (cnCells { DF with pa := some ⟨g2c, 0, none⟩, pc := cp2c }), .agg (cnCells { DT with pa := some ⟨gg2c, 0, none⟩, pc := cpp2c })], .agg #[.int .i64 rm0, .string xD, .bool xE, .int .i64 xN], .agg (cnCells { DF with pa := some ⟨g2, 0, none⟩, pc := cp2 }), .agg (cnCells { DT with pa := some ⟨gg2, 0, none⟩, pc := cpp2 }), .agg #[.int .i64 rm0, .string xD, .bool xE, .int .i64 xN], .agg #[.int .i64 rm0, .string xD, .bool xE, .int .i64 xN], .bool true, .bool false, .bool false, .agg (cnCells { DF with pa := some ⟨g2, 0, none⟩, pc := cp2 }), .agg (cnCells { DF with pa := some ⟨g1, 0, none⟩, pc := cp1 }), .bool true, .bool false, .bool false, .bool false, .agg (cnCells { DT with pa := some ⟨gg2, 0, none⟩, pc := cpp2 }), .agg (cnCells { DT with pa := some ⟨gg1, 0, none⟩, pc := cpp1 }), .bool true, .bool false, .bool false, .agg (cnCells { c1 with pa := some ⟨y1, 0, none⟩, pc := c1.pn }), .agg (cnCells c1), .agg (cnCells { c1 with pa := some ⟨qz57, 0, none⟩, pc := c1.pn }), .bool true, .bool false, v 0, v 1, v 2, v 3, v 4, undef, undef, undef, undef, undef, undef, undef, undef, undef, undef, undef, undef, undef, undef, undef, undef, undef, undef, undef, undef, undef, undef, undef, undef, undef, undef, undef, undef, undef, undef, undef, undef, undef, undef, undef, undef, undef, undef, undef, undef, undef, undef, undef, undef, undef, undef, undef, undef, undef, undef, undef, undef, undef, undef, undef, undef, undef, undef, undef, undef, undef, undef, undef, undef, undef, undef, undef, undef, undef, undef, undef, undef, undef, undef, undef, undef, undef, undef, undef, undef, undef, undef, undef, undef, undef], defers := [] }) (by kernel_rfl) (by kernel_rfl) (Since.refl _) ?_ (fun vals => by kernel_rfl) ?_ ?_
        case refine_1 =>
          intro j x x' v h1 h2
          match j, h2 with
          | 2, h2 =>
            obtain ⟨g, e, T⟩ := h2
            exact ⟨g, e, T.since h1⟩
          | 0, h2 | 1, h2 | 3, h2 | 4, h2 => exact h2
          | n + 5, _ => trivial
        case refine_2 =>
          repeat (first | exact eachDoes_nil | refine eachDoes_cons ?_ ?_)
          all_goals intro vals x hx hv
          all_goals simp [Region.binds] at hv
          · simp [does, doesUpon, go_sem, hv, Since.refl]
          · obtain ⟨h0, g, h2, T⟩ := hv
            simp [does, doesUpon, go_sem, h0, h2]
            refine (k2 _ _ _ _ _ (X2.since hx).reads T.reads).mono ?_
            rintro _ x' ⟨rfl, h1⟩
            simp [h1]
          · simp [does, doesUpon, go_sem, hv]
            refine (hT2 _ (R2.since (G.trans hx))).mono ?_
            rintro _ x' ⟨g, rfl, T, h1⟩
            exact ⟨_, rfl, h1, g, rfl, T.raise (Nat.zero_le _)⟩
          · exact does_load lcn_big (cn_size _) (qB8.since hx) _ rfl rfl ⟨Since.refl _, rfl⟩
          · exact does_load cn_big (cn_size _) (qB39.since hx) _ rfl rfl ⟨Since.refl _, rfl⟩
        case refine_3 =>
          intro qv60 qw58 qh59 hv
          have hv0 : qv60 0 = _ := hv 0 (by decide)
          have hv1 : qv60 1 = _ := hv 1 (by decide)
          obtain ⟨qz61, hv2, -⟩ := hv 2 (by decide)
          have hv3 : qv60 3 = _ := hv 3 (by decide)
          have hv4 : qv60 4 = _ := hv 4 (by decide)
          clear hv
          simp only [hv0, hv1, hv2, hv3, hv4]
          clear hv0 hv1 hv2 hv3 hv4
          replace qB2 := qB2.since qh59
          replace qB5 := qB5.since qh59
          replace qB8 := qB8.since qh59
          replace qB21 := qB21.since qh59
          replace qB22 := qB22.since qh59
          replace qB23 := qB23.since qh59
          replace qB31 := qB31.since qh59
          replace qB39 := qB39.since qh59
          replace qB45 := qB45.since qh59
          replace qB46 := qB46.since qh59
          replace qB47 := qB47.since qh59
          replace H1 := H1.since qh59
          replace K1 := K1.since qh59
          replace X1 := X1.since qh59
          replace X2 := X2.since qh59
          replace H2 := H2.since qh59
          replace K2 := K2.since qh59
          replace G := G.trans qh59
          have qh59_s := qh59.size
          go_upto_region 22 with (fail)
          refine vR ?_
          refine vB cn_big qB31 (cn_size _) ?_
          refine vV (.int .i64 1) ?_
          refine vC (markCn c1 y1 _ _ _ 1 (by omega) (by omega) _ X1) ?_
          have X1_2 := X1.low'
          rintro _ qw62 ⟨rfl, qt63, ms3, hM3, X1n⟩
          refine ⟨_, rfl, ?_⟩
          clear X1
          have X1 := X1n
          clear X1n
          replace qB2 := qB2.touch qt63 (by omega)
          replace qB5 := qB5.touch qt63 (by omega)
          replace qB8 := qB8.touch qt63 (by omega)
          replace qB21 := qB21.touch qt63 (by omega)
          replace qB22 := qB22.touch qt63 (by omega)
          replace qB23 := qB23.touch qt63 (by omega)
          replace qB31 := qB31.touch qt63 (by omega)
          replace qB39 := qB39.touch qt63 (by omega)
          replace qB45 := qB45.touch qt63 (by omega)
          replace qB46 := qB46.touch qt63 (by omega)
          replace qB47 := qB47.touch qt63 (by omega)
          replace H1 := H1.touch qt63 (by omega)
          replace K1 := K1.touch qt63 (by omega)
          replace X2 := X2.touch qt63 (by omega)
          replace H2 := H2.touch qt63 (by omega)
          replace K2 := K2.touch qt63 (by omega)
          replace G := since_touch G qt63 (by omega)
          have qt63_s := qt63.size
          refine vV (.int .i64 (1 + 2 * c1.pn)) ?_
          refine vE #[.agg #[.int .i64 rm0, .string d0, .bool e0, .int .i64 n0], .agg (cnCells c1), .agg (cnCells c2), .pointer (some ⟨w.heap.size, 0, none⟩), .pointer (some ⟨qw1.heap.size, 0, none⟩), .pointer (some ⟨qw4.heap.size, 0, none⟩), .bool false, .int .i64 r2, .pointer (some ⟨qx18, 0, none⟩), .pointer (some ⟨qx19, 0, none⟩), .pointer (some ⟨qx20, 0, none⟩), .pointer (some ⟨qw24.heap.size, 0, none⟩), .pointer (some ⟨qw32.heap.size, 0, none⟩), .pointer (some ⟨qx42, 0, none⟩), .pointer (some ⟨qx43, 0, none⟩), .pointer (some ⟨qx44, 0, none⟩), .int .i64 (1 + 2 * c1.pn), undef, undef, undef, undef, undef, .agg #[.int .i64 rm0, .string d0, .bool e0, .int .i64 n0], .int .i64 1048576, .int .i64 l0, .int .i64 l0, .bool (decide (l0 < 0)), .agg (cnCells c1), .int .i64 l0, .int .i64 r1, .int .i64 r1, .bool (decide (r1 < 0)), .agg (cnCells c2), .int .i64 r1, .int .i64 r2, .int .i64 r2, .bool (decide (r2 < 0)), .tuple #[.agg #[.int .i64 rm0, .string xD, .bool xE, .int .i64 xN], .agg (cnCells { DF with pa := some ⟨g1, 0, none⟩, pc := cp1 }), .agg (cnCells { DT with pa := some ⟨gg1, 0, none⟩, pc := cpp1 })], .agg #[.int .i64 rm0, .string d0, .bool e0, .int .i64 n0], .agg #[.int .i64 rm0, .string d0, .bool e0, .int .i64 n0], .agg (cnCells c1), .agg (cnCells { c1 with pa := some ⟨qf3r11, 0, none⟩, pc := c1.pn }), .agg (cnCells c2), .agg (cnCells { c2 with pa := some ⟨qf5r11, 0, none⟩, pc := c2.pn }), .tuple #[.agg #[.int .i64 rm0, .string xD, .bool xE, .int .i64 xN], .agg (cnCells { DF with pa := some ⟨g1c, 0, none⟩, pc := cp1c }), .agg (cnCells { DT with pa := some ⟨gg1c, 0, none⟩, pc := cpp1c })], .agg #[.int .i64 rm0, .string xD, .bool xE, .int .i64 xN], .agg (cnCells { DF with pa := some ⟨g1, 0, none⟩, pc := cp1 }), .agg (cnCells { DT with pa := some ⟨gg1, 0, none⟩, pc := cpp1 }), .agg (cnCells c1), .agg (cnCells { c1 with pa := some ⟨y1, 0, none⟩, pc := c1.pn }), .agg (cnCells c2), .agg (cnCells { c2 with pa := some ⟨y2, 0, none⟩, pc := c2.pn }), .tuple #[.agg #[.int .i64 rm0, .string xD, .bool xE, .int .i64 xN], .agg (cnCells { DF with pa := some ⟨g2, 0, none⟩, pc := cp2 }), .agg (cnCells { DT with pa := some ⟨gg2, 0, none⟩, pc := cpp2 })], .agg #[.int .i64 rm0, .string d0, .bool e0, .int .i64 n0], .agg #[.int .i64 rm0, .string d0, .bool e0, .int .i64 n0], .agg (cnCells { c1 with pa := some ⟨y1, 0, none⟩, pc := c1.pn }), .agg (cnCells { c2 with pa := some ⟨y2, 0, none⟩, pc := c2.pn }), .tuple #[.agg #[.int .i64 rm0, .string xD, .bool xE, .int .i64 xN], .agg (cnCells { DF with pa := some ⟨g2c, 0, none⟩, pc := cp2c }), .agg (cnCells { DT with pa := some ⟨gg2c, 0, none⟩, pc := cpp2c })], .agg #[.int .i64 rm0, .string xD, .bool xE, .int .i64 xN], .agg (cnCells { DF with pa := some ⟨g2, 0, none⟩, pc := cp2 }), .agg (cnCells { DT with pa := some ⟨gg2, 0, none⟩, pc := cpp2 }), .agg #[.int .i64 rm0, .string xD, .bool xE, .int .i64 xN], .agg #[.int .i64 rm0, .string xD, .bool xE, .int .i64 xN], .bool true, .bool false, .bool false, .agg (cnCells { DF with pa := some ⟨g2, 0, none⟩, pc := cp2 }), .agg (cnCells { DF with pa := some ⟨g1, 0, none⟩, pc := cp1 }), .bool true, .bool false, .bool false, .bool false, .agg (cnCells { DT with pa := some ⟨gg2, 0, none⟩, pc := cpp2 }), .agg (cnCells { DT with pa := some ⟨gg1, 0, none⟩, pc := cpp1 }), .bool true, .bool false, .bool false, .agg (cnCells { c1 with pa := some ⟨y1, 0, none⟩, pc := c1.pn }), .agg (cnCells c1), .agg (cnCells { c1 with pa := some ⟨qz57, 0, none⟩, pc := c1.pn }), .bool true, .bool false, .agg (cnCells { c2 with pa := some ⟨y2, 0, none⟩, pc := c2.pn }), .agg (cnCells c2), .agg (cnCells { c2 with pa := some ⟨qz61, 0, none⟩, pc := c2.pn }), .bool true, .bool false, .agg (cnCells { c1 with pa := some ⟨y1, 0, none⟩, pc := c1.pn }), .int .i64 1, .int .i64 (1 + 2 * c1.pn), undef, undef, undef, undef, undef, undef, undef, undef, undef, undef, undef, undef, undef, undef, undef, undef, undef, undef, undef, undef, undef, undef, undef, undef, undef, undef, undef, undef, undef, undef, undef, undef, undef, undef, undef, undef, undef, undef, undef, undef, undef, undef, undef, undef, undef, undef, undef, undef, undef, undef, undef, undef, undef, undef, undef, undef, undef, undef, undef, undef, undef, undef, undef, undef, undef, undef, undef, undef, undef, undef, undef, undef, undef, undef, undef, undef, undef, undef, undef, undef, undef, undef] ?_
          go_upto_region 23 with (fail)
          refine vR ?_
          refine vB cn_big qB39 (cn_size _) ?_
          refine vV (.int .i64 (1 + 2 * c1.pn)) ?_
          refine vC (markCn c2 y2 _ _ _ (1 + 2 * c1.pn) (by omega) (by omega) _ X2) ?_
          have X2_2 := X2.low'
          rintro _ qw64 ⟨rfl, qt65, ms4, hM4, X2n⟩
          refine ⟨_, rfl, ?_⟩
          clear X2
          have X2 := X2n
          clear X2n
          replace qB2 := qB2.touch qt65 (by omega)
          replace qB5 := qB5.touch qt65 (by omega)
          replace qB8 := qB8.touch qt65 (by omega)
          replace qB21 := qB21.touch qt65 (by omega)
          replace qB22 := qB22.touch qt65 (by omega)
          replace qB23 := qB23.touch qt65 (by omega)
          replace qB31 := qB31.touch qt65 (by omega)
          replace qB39 := qB39.touch qt65 (by omega)
          replace qB45 := qB45.touch qt65 (by omega)
          replace qB46 := qB46.touch qt65 (by omega)
          replace qB47 := qB47.touch qt65 (by omega)
          replace H1 := H1.touch qt65 (by omega)
          replace K1 := K1.touch qt65 (by omega)
          replace H2 := H2.touch qt65 (by omega)
          replace K2 := K2.touch qt65 (by omega)
          replace X1 := X1.touch qt65 (by omega)
          replace G := since_touch G qt65 (by omega)
          have qt65_s := qt65.size
          refine vV (.int .i64 ((1 + 2 * c1.pn) + 2 * c2.pn)) ?_
          refine vE #[.agg #[.int .i64 rm0, .string d0, .bool e0, .int .i64 n0], .agg (cnCells c1), .agg (cnCells c2), .pointer (some ⟨w.heap.size, 0, none⟩), .pointer (some ⟨qw1.heap.size, 0, none⟩), .pointer (some ⟨qw4.heap.size, 0, none⟩), .bool false, .int .i64 r2, .pointer (some ⟨qx18, 0, none⟩), .pointer (some ⟨qx19, 0, none⟩), .pointer (some ⟨qx20, 0, none⟩), .pointer (some ⟨qw24.heap.size, 0, none⟩), .pointer (some ⟨qw32.heap.size, 0, none⟩), .pointer (some ⟨qx42, 0, none⟩), .pointer (some ⟨qx43, 0, none⟩), .pointer (some ⟨qx44, 0, none⟩), .int .i64 ((1 + 2 * c1.pn) + 2 * c2.pn), undef, undef, undef, undef, undef, .agg #[.int .i64 rm0, .string d0, .bool e0, .int .i64 n0], .int .i64 1048576, .int .i64 l0, .int .i64 l0, .bool (decide (l0 < 0)), .agg (cnCells c1), .int .i64 l0, .int .i64 r1, .int .i64 r1, .bool (decide (r1 < 0)), .agg (cnCells c2), .int .i64 r1, .int .i64 r2, .int .i64 r2, .bool (decide (r2 < 0)), .tuple #[.agg #[.int .i64 rm0, .string xD, .bool xE, .int .i64 xN], .agg (cnCells { DF with pa := some ⟨g1, 0, none⟩, pc := cp1 }), .agg (cnCells { DT with pa := some ⟨gg1, 0, none⟩, pc := cpp1 })], .agg #[.int .i64 rm0, .string d0, .bool e0, .int .i64 n0], .agg #[.int .i64 rm0, .string d0, .bool e0, .int .i64 n0], .agg (cnCells c1), .agg (cnCells { c1 with pa := some ⟨qf3r11, 0, none⟩, pc := c1.pn }), .agg (cnCells c2), .agg (cnCells { c2 with pa := some ⟨qf5r11, 0, none⟩, pc := c2.pn }), .tuple #[.agg #[.int .i64 rm0, .string xD, .bool xE, .int .i64 xN], .agg (cnCells { DF with pa := some ⟨g1c, 0, none⟩, pc := cp1c }), .agg (cnCells { DT with pa := some ⟨gg1c, 0, none⟩, pc := cpp1c })], .agg #[.int .i64 rm0, .string xD, .bool xE, .int .i64 xN], .agg (cnCells { DF with pa := some ⟨g1, 0, none⟩, pc := cp1 }), .agg (cnCells { DT with pa := some ⟨gg1, 0, none⟩, pc := cpp1 }), .agg (cnCells c1), .agg (cnCells { c1 with pa := some ⟨y1, 0, none⟩, pc := c1.pn }), .agg (cnCells c2), .agg (cnCells { c2 with pa := some ⟨y2, 0, none⟩, pc := c2.pn }), .tuple #[.agg #[.int .i64 rm0, .string xD, .bool xE, .int .i64 xN], .agg (cnCells { DF with pa := some ⟨g2, 0, none⟩, pc := cp2 }), .agg (cnCells { DT with pa := some ⟨gg2, 0, none⟩, pc := cpp2 })], .agg #[.int .i64 rm0, .string d0, .bool e0, .int .i64 n0], .agg #[.int .i64 rm0, .string d0, .bool e0, .int .i64 n0], .agg (cnCells { c1 with pa := some ⟨y1, 0, none⟩, pc := c1.pn }), .agg (cnCells { c2 with pa := some ⟨y2, 0, none⟩, pc := c2.pn }), .tuple #[.agg #[.int .i64 rm0, .string xD, .bool xE, .int .i64 xN], .agg (cnCells { DF with pa := some ⟨g2c, 0, none⟩, pc := cp2c }), .agg (cnCells { DT with pa := some ⟨gg2c, 0, none⟩, pc := cpp2c })], .agg #[.int .i64 rm0, .string xD, .bool xE, .int .i64 xN], .agg (cnCells { DF with pa := some ⟨g2, 0, none⟩, pc := cp2 }), .agg (cnCells { DT with pa := some ⟨gg2, 0, none⟩, pc := cpp2 }), .agg #[.int .i64 rm0, .string xD, .bool xE, .int .i64 xN], .agg #[.int .i64 rm0, .string xD, .bool xE, .int .i64 xN], .bool true, .bool false, .bool false, .agg (cnCells { DF with pa := some ⟨g2, 0, none⟩, pc := cp2 }), .agg (cnCells { DF with pa := some ⟨g1, 0, none⟩, pc := cp1 }), .bool true, .bool false, .bool false, .bool false, .agg (cnCells { DT with pa := some ⟨gg2, 0, none⟩, pc := cpp2 }), .agg (cnCells { DT with pa := some ⟨gg1, 0, none⟩, pc := cpp1 }), .bool true, .bool false, .bool false, .agg (cnCells { c1 with pa := some ⟨y1, 0, none⟩, pc := c1.pn }), .agg (cnCells c1), .agg (cnCells { c1 with pa := some ⟨qz57, 0, none⟩, pc := c1.pn }), .bool true, .bool false, .agg (cnCells { c2 with pa := some ⟨y2, 0, none⟩, pc := c2.pn }), .agg (cnCells c2), .agg (cnCells { c2 with pa := some ⟨qz61, 0, none⟩, pc := c2.pn }), .bool true, .bool false, .agg (cnCells { c1 with pa := some ⟨y1, 0, none⟩, pc := c1.pn }), .int .i64 1, .int .i64 (1 + 2 * c1.pn), .agg (cnCells { c2 with pa := some ⟨y2, 0, none⟩, pc := c2.pn }), .int .i64 (1 + 2 * c1.pn), .int .i64 ((1 + 2 * c1.pn) + 2 * c2.pn), undef, undef, undef, undef, undef, undef, undef, undef, undef, undef, undef, undef, undef, undef, undef, undef, undef, undef, undef, undef, undef, undef, undef, undef, undef, undef, undef, undef, undef, undef, undef, undef, undef, undef, undef, undef, undef, undef, undef, undef, undef, undef, undef, undef, undef, undef, undef, undef, undef, undef, undef, undef, undef, undef, undef, undef, undef, undef, undef, undef, undef, undef, undef, undef, undef, undef, undef, undef, undef, undef, undef, undef, undef, undef, undef, undef, undef, undef, undef] ?_
          go_upto_region 24 with (fail)
          have hlt24 : decide (((1 + 2 * c1.pn) + 2 * c2.pn) < 0) = false := decide_eq_false (by omega)
          refine vR ?_
          refine vV (.int .i64 ((1 + 2 * c1.pn) + 2 * c2.pn)) ?_
          refine vV (.bool false) ?_ (hrun := by rw [← hlt24]; kernel_rfl)
          refine vV (.bool false) ?_
          refine vB pp_big qB45 rfl ?_
          refine vB pp_big qB21 rfl ?_
          refine vK (he _) ?_
          intro qw66 qg67
          replace qB2 := qB2.since qg67
          replace qB5 := qB5.since qg67
          replace qB8 := qB8.since qg67
          replace qB21 := qB21.since qg67
          replace qB22 := qB22.since qg67
          replace qB23 := qB23.since qg67
          replace qB31 := qB31.since qg67
          replace qB39 := qB39.since qg67
          replace qB45 := qB45.since qg67
          replace qB46 := qB46.since qg67
          replace qB47 := qB47.since qg67
          replace H1 := H1.since qg67
          replace K1 := K1.since qg67
          replace H2 := H2.since qg67
          replace K2 := K2.since qg67
          replace X1 := X1.since qg67
          replace X2 := X2.since qg67
          replace G := G.trans qg67
          have qg67_s := qg67.size
          refine vV (.bool false) ?_
          refine vV (.bool false) ?_
          refine vV (.bool false) ?_
          refine vB cn_big qB46 (cn_size _) ?_
          refine vB cn_big qB22 (cn_size _) ?_
          refine vK (kF _ _ _ _ _ _ _ H2 H1) ?_
          intro qw68 qg69
          replace qB2 := qB2.since qg69
          replace qB5 := qB5.since qg69
          replace qB8 := qB8.since qg69
          replace qB21 := qB21.since qg69
          replace qB22 := qB22.since qg69
          replace qB23 := qB23.since qg69
          replace qB31 := qB31.since qg69
          replace qB39 := qB39.since qg69
          replace qB45 := qB45.since qg69
          replace qB46 := qB46.since qg69
          replace qB47 := qB47.since qg69
          replace H1 := H1.since qg69
          replace K1 := K1.since qg69
          replace H2 := H2.since qg69
          replace K2 := K2.since qg69
          replace X1 := X1.since qg69
          replace X2 := X2.since qg69
          replace G := G.trans qg69
          have qg69_s := qg69.size
          refine vV (.bool false) ?_
          refine vV (.bool false) ?_
          refine vV (.bool false) ?_
          refine vB cn_big qB47 (cn_size _) ?_
          refine vB cn_big qB23 (cn_size _) ?_
          refine vK (kT _ _ _ _ _ _ _ K2 K1) ?_
          intro qw70 qg71
          replace qB2 := qB2.since qg71
          replace qB5 := qB5.since qg71
          replace qB8 := qB8.since qg71
          replace qB21 := qB21.since qg71
          replace qB22 := qB22.since qg71
          replace qB23 := qB23.since qg71
          replace qB31 := qB31.since qg71
          replace qB39 := qB39.since qg71
          replace qB45 := qB45.since qg71
          replace qB46 := qB46.since qg71
          replace qB47 := qB47.since qg71
          replace H1 := H1.since qg71
          replace K1 := K1.since qg71
          replace H2 := H2.since qg71
          replace K2 := K2.since qg71
          replace X1 := X1.since qg71
          replace X2 := X2.since qg71
          replace G := G.trans qg71
          have qg71_s := qg71.size
          refine vV (.bool false) ?_
          refine vV (.bool false) ?_
          refine vE #[.agg #[.int .i64 rm0, .string d0, .bool e0, .int .i64 n0], .agg (cnCells c1), .agg (cnCells c2), .pointer (some ⟨w.heap.size, 0, none⟩), .pointer (some ⟨qw1.heap.size, 0, none⟩), .pointer (some ⟨qw4.heap.size, 0, none⟩), .bool false, .int .i64 r2, .pointer (some ⟨qx18, 0, none⟩), .pointer (some ⟨qx19, 0, none⟩), .pointer (some ⟨qx20, 0, none⟩), .pointer (some ⟨qw24.heap.size, 0, none⟩), .pointer (some ⟨qw32.heap.size, 0, none⟩), .pointer (some ⟨qx42, 0, none⟩), .pointer (some ⟨qx43, 0, none⟩), .pointer (some ⟨qx44, 0, none⟩), .int .i64 ((1 + 2 * c1.pn) + 2 * c2.pn), undef, undef, undef, undef, undef, .agg #[.int .i64 rm0, .string d0, .bool e0, .int .i64 n0], .int .i64 1048576, .int .i64 l0, .int .i64 l0, .bool (decide (l0 < 0)), .agg (cnCells c1), .int .i64 l0, .int .i64 r1, .int .i64 r1, .bool (decide (r1 < 0)), .agg (cnCells c2), .int .i64 r1, .int .i64 r2, .int .i64 r2, .bool (decide (r2 < 0)), .tuple #[.agg #[.int .i64 rm0, .string xD, .bool xE, .int .i64 xN], .agg (cnCells { DF with pa := some ⟨g1, 0, none⟩, pc := cp1 }), .agg (cnCells { DT with pa := some ⟨gg1, 0, none⟩, pc := cpp1 })], .agg #[.int .i64 rm0, .string d0, .bool e0, .int .i64 n0], .agg #[.int .i64 rm0, .string d0, .bool e0, .int .i64 n0], .agg (cnCells c1), .agg (cnCells { c1 with pa := some ⟨qf3r11, 0, none⟩, pc := c1.pn }), .agg (cnCells c2), .agg (cnCells { c2 with pa := some ⟨qf5r11, 0, none⟩, pc := c2.pn }), .tuple #[.agg #[.int .i64 rm0, .string xD, .bool xE, .int .i64 xN], .agg (cnCells { DF with pa := some ⟨g1c, 0, none⟩, pc := cp1c }), .agg (cnCells { DT with pa := some ⟨gg1c, 0, none⟩, pc := cpp1c })], .agg #[.int .i64 rm0, .string xD, .bool xE, .int .i64 xN], .agg (cnCells { DF with pa := some ⟨g1, 0, none⟩, pc := cp1 }), .agg (cnCells { DT with pa := some ⟨gg1, 0, none⟩, pc := cpp1 }), .agg (cnCells c1), .agg (cnCells { c1 with pa := some ⟨y1, 0, none⟩, pc := c1.pn }), .agg (cnCells c2), .agg (cnCells { c2 with pa := some ⟨y2, 0, none⟩, pc := c2.pn }), .tuple #[.agg #[.int .i64 rm0, .string xD, .bool xE, .int .i64 xN], .agg (cnCells { DF with pa := some ⟨g2, 0, none⟩, pc := cp2 }), .agg (cnCells { DT with pa := some ⟨gg2, 0, none⟩, pc := cpp2 })], .agg #[.int .i64 rm0, .string d0, .bool e0, .int .i64 n0], .agg #[.int .i64 rm0, .string d0, .bool e0, .int .i64 n0], .agg (cnCells { c1 with pa := some ⟨y1, 0, none⟩, pc := c1.pn }), .agg (cnCells { c2 with pa := some ⟨y2, 0, none⟩, pc := c2.pn }), .tuple #[.agg #[.int .i64 rm0, .string xD, .bool xE, .int .i64 xN], .agg (cnCells { DF with pa := some ⟨g2c, 0, none⟩, pc := cp2c }), .agg (cnCells { DT with pa := some ⟨gg2c, 0, none⟩, pc := cpp2c })], .agg #[.int .i64 rm0, .string xD, .bool xE, .int .i64 xN], .agg (cnCells { DF with pa := some ⟨g2, 0, none⟩, pc := cp2 }), .agg (cnCells { DT with pa := some ⟨gg2, 0, none⟩, pc := cpp2 }), .agg #[.int .i64 rm0, .string xD, .bool xE, .int .i64 xN], .agg #[.int .i64 rm0, .string xD, .bool xE, .int .i64 xN], .bool true, .bool false, .bool false, .agg (cnCells { DF with pa := some ⟨g2, 0, none⟩, pc := cp2 }), .agg (cnCells { DF with pa := some ⟨g1, 0, none⟩, pc := cp1 }), .bool true, .bool false, .bool false, .bool false, .agg (cnCells { DT with pa := some ⟨gg2, 0, none⟩, pc := cpp2 }), .agg (cnCells { DT with pa := some ⟨gg1, 0, none⟩, pc := cpp1 }), .bool true, .bool false, .bool false, .agg (cnCells { c1 with pa := some ⟨y1, 0, none⟩, pc := c1.pn }), .agg (cnCells c1), .agg (cnCells { c1 with pa := some ⟨qz57, 0, none⟩, pc := c1.pn }), .bool true, .bool false, .agg (cnCells { c2 with pa := some ⟨y2, 0, none⟩, pc := c2.pn }), .agg (cnCells c2), .agg (cnCells { c2 with pa := some ⟨qz61, 0, none⟩, pc := c2.pn }), .bool true, .bool false, .agg (cnCells { c1 with pa := some ⟨y1, 0, none⟩, pc := c1.pn }), .int .i64 1, .int .i64 (1 + 2 * c1.pn), .agg (cnCells { c2 with pa := some ⟨y2, 0, none⟩, pc := c2.pn }), .int .i64 (1 + 2 * c1.pn), .int .i64 ((1 + 2 * c1.pn) + 2 * c2.pn), .int .i64 ((1 + 2 * c1.pn) + 2 * c2.pn), .bool false, .bool false, .agg #[.int .i64 rm0, .string xD, .bool xE, .int .i64 xN], .agg #[.int .i64 rm0, .string xD, .bool xE, .int .i64 xN], .bool true, .bool false, .bool false, .bool false, .agg (cnCells { DF with pa := some ⟨g2, 0, none⟩, pc := cp2 }), .agg (cnCells { DF with pa := some ⟨g1, 0, none⟩, pc := cp1 }), .bool true, .bool false, .bool false, .bool false, .agg (cnCells { DT with pa := some ⟨gg2, 0, none⟩, pc := cpp2 }), .agg (cnCells { DT with pa := some ⟨gg1, 0, none⟩, pc := cpp1 }), .bool true, .bool false, .bool false, undef, undef, undef, undef, undef, undef, undef, undef, undef, undef, undef, undef, undef, undef, undef, undef, undef, undef, undef, undef, undef, undef, undef, undef, undef, undef, undef, undef, undef, undef, undef, undef, undef, undef, undef, undef, undef, undef, undef, undef, undef, undef, undef, undef, undef, undef, undef, undef, undef, undef, undef, undef, undef, undef, undef, undef, undef, undef, undef] ?_
          go_upto_region 27 with (fail)
          refine vR ?_
          refine vB cn_big qB46 (cn_size _) ?_
          refine vV (.int .i64 1) ?_
          refine vC (markCn DF g2 _ _ _ 1 (by omega) (by omega) _ H2) ?_
          have H2_2 := H2.low'
          rintro _ qw72 ⟨rfl, qt73, ms5, hM5, H2n⟩
          refine ⟨_, rfl, ?_⟩
          clear H2
          have H2 := H2n
          clear H2n
          replace qB2 := qB2.touch qt73 (by omega)
          replace qB5 := qB5.touch qt73 (by omega)
          replace qB8 := qB8.touch qt73 (by omega)
          replace qB21 := qB21.touch qt73 (by omega)
          replace qB22 := qB22.touch qt73 (by omega)
          replace qB23 := qB23.touch qt73 (by omega)
          replace qB31 := qB31.touch qt73 (by omega)
          replace qB39 := qB39.touch qt73 (by omega)
          replace qB45 := qB45.touch qt73 (by omega)
          replace qB46 := qB46.touch qt73 (by omega)
          replace qB47 := qB47.touch qt73 (by omega)
          replace H1 := H1.touch qt73 (by omega)
          replace K1 := K1.touch qt73 (by omega)
          replace K2 := K2.touch qt73 (by omega)
          replace X1 := X1.touch qt73 (by omega)
          replace X2 := X2.touch qt73 (by omega)
          replace G := since_touch G qt73 (by omega)
          have qt73_s := qt73.size
          refine vV (.int .i64 (1 + 2 * DF.pn)) ?_
          refine vE #[.agg #[.int .i64 rm0, .string d0, .bool e0, .int .i64 n0], .agg (cnCells c1), .agg (cnCells c2), .pointer (some ⟨w.heap.size, 0, none⟩), .pointer (some ⟨qw1.heap.size, 0, none⟩), .pointer (some ⟨qw4.heap.size, 0, none⟩), .bool false, .int .i64 r2, .pointer (some ⟨qx18, 0, none⟩), .pointer (some ⟨qx19, 0, none⟩), .pointer (some ⟨qx20, 0, none⟩), .pointer (some ⟨qw24.heap.size, 0, none⟩), .pointer (some ⟨qw32.heap.size, 0, none⟩), .pointer (some ⟨qx42, 0, none⟩), .pointer (some ⟨qx43, 0, none⟩), .pointer (some ⟨qx44, 0, none⟩), .int .i64 ((1 + 2 * c1.pn) + 2 * c2.pn), .int .i64 (1 + 2 * DF.pn), undef, undef, undef, undef, .agg #[.int .i64 rm0, .string d0, .bool e0, .int .i64 n0], .int .i64 1048576, .int .i64 l0, .int .i64 l0, .bool (decide (l0 < 0)), .agg (cnCells c1), .int .i64 l0, .int .i64 r1, .int .i64 r1, .bool (decide (r1 < 0)), .agg (cnCells c2), .int .i64 r1, .int .i64 r2, .int .i64 r2, .bool (decide (r2 < 0)), .tuple #[.agg #[.int .i64 rm0, .string xD, .bool xE, .int .i64 xN], .agg (cnCells { DF with pa := some ⟨g1, 0, none⟩, pc := cp1 }), .agg (cnCells { DT with pa := some ⟨gg1, 0, none⟩, pc := cpp1 })], .agg #[.int .i64 rm0, .string d0, .bool e0, .int .i64 n0], .agg #[.int .i64 rm0, .string d0, .bool e0, .int .i64 n0], .agg (cnCells c1), .agg (cnCells { c1 with pa := some ⟨qf3r11, 0, none⟩, pc := c1.pn }), .agg (cnCells c2), .agg (cnCells { c2 with pa := some ⟨qf5r11, 0, none⟩, pc := c2.pn }), .tuple #[.agg #[.int .i64 rm0, .string xD, .bool xE, .int .i64 xN], .agg (cnCells { DF with pa := some ⟨g1c, 0, none⟩, pc := cp1c }), .agg (cnCells { DT with pa := some ⟨gg1c, 0, none⟩, pc := cpp1c })], .agg #[.int .i64 rm0, .string xD, .bool xE, .int .i64 xN], .agg (cnCells { DF with pa := some ⟨g1, 0, none⟩, pc := cp1 }), .agg (cnCells { DT with pa := some ⟨gg1, 0, none⟩, pc := cpp1 }), .agg (cnCells c1), .agg (cnCells { c1 with pa := some ⟨y1, 0, none⟩, pc := c1.pn }), .agg (cnCells c2), .agg (cnCells { c2 with pa := some ⟨y2, 0, none⟩, pc := c2.pn }), .tuple #[.agg #[.int .i64 rm0, .string xD, .bool xE, .int .i64 xN], .agg (cnCells { DF with pa := some ⟨g2, 0, none⟩, pc := cp2 }), .agg (cnCells { DT with pa := some ⟨gg2, 0, none⟩, pc := cpp2 })], .agg #[.int .i64 rm0, .string d0, .bool e0, .int .i64 n0], .agg #[.int .i64 rm0, .string d0, .bool e0, .int .i64 n0], .agg (cnCells { c1 with pa := some ⟨y1, 0, none⟩, pc := c1.pn }), .agg (cnCells { c2 with pa := some ⟨y2, 0, none⟩, pc := c2.pn }), .tuple #[.agg #[.int .i64 rm0, .string xD, .bool xE, .int .i64 xN], .agg (cnCells { DF with pa := some ⟨g2c, 0, none⟩, pc := cp2c }), .agg (cnCells { DT with pa := some ⟨gg2c, 0, none⟩, pc := cpp2c })], .agg #[.int .i64 rm0, .string xD, .bool xE, .int .i64 xN], .agg (cnCells { DF with pa := some ⟨g2, 0, none⟩, pc := cp2 }), .agg (cnCells { DT with pa := some ⟨gg2, 0, none⟩, pc := cpp2 }), .agg #[.int .i64 rm0, .string xD, .bool xE, .int .i64 xN], .agg #[.int .i64 rm0, .string xD, .bool xE, .int .i64 xN], .bool true, .bool false, .bool false, .agg (cnCells { DF with pa := some ⟨g2, 0, none⟩, pc := cp2 }), .agg (cnCells { DF with pa := some ⟨g1, 0, none⟩, pc := cp1 }), .bool true, .bool false, .bool false, .bool false, .agg (cnCells { DT with pa := some ⟨gg2, 0, none⟩, pc := cpp2 }), .agg (cnCells { DT with pa := some ⟨gg1, 0, none⟩, pc := cpp1 }), .bool true, .bool false, .bool false, .agg (cnCells { c1 with pa := some ⟨y1, 0, none⟩, pc := c1.pn }), .agg (cnCells c1), .agg (cnCells { c1 with pa := some ⟨qz57, 0, none⟩, pc := c1.pn }), .bool true, .bool false, .agg (cnCells { c2 with pa := some ⟨y2, 0, none⟩, pc := c2.pn }), .agg (cnCells c2), .agg (cnCells { c2 with pa := some ⟨qz61, 0, none⟩, pc := c2.pn }), .bool true, .bool false, .agg (cnCells { c1 with pa := some ⟨y1, 0, none⟩, pc := c1.pn }), .int .i64 1, .int .i64 (1 + 2 * c1.pn), .agg (cnCells { c2 with pa := some ⟨y2, 0, none⟩, pc := c2.pn }), .int .i64 (1 + 2 * c1.pn), .int .i64 ((1 + 2 * c1.pn) + 2 * c2.pn), .int .i64 ((1 + 2 * c1.pn) + 2 * c2.pn), .bool false, .bool false, .agg #[.int .i64 rm0, .string xD, .bool xE, .int .i64 xN], .agg #[.int .i64 rm0, .string xD, .bool xE, .int .i64 xN], .bool true, .bool false, .bool false, .bool false, .agg (cnCells { DF with pa := some ⟨g2, 0, none⟩, pc := cp2 }), .agg (cnCells { DF with pa := some ⟨g1, 0, none⟩, pc := cp1 }), .bool true, .bool false, .bool false, .bool false, .agg (cnCells { DT with pa := some ⟨gg2, 0, none⟩, pc := cpp2 }), .agg (cnCells { DT with pa := some ⟨gg1, 0, none⟩, pc := cpp1 }), .bool true, .bool false, .bool false, .agg (cnCells { DF with pa := some ⟨g2, 0, none⟩, pc := cp2 }), .int .i64 1, .int .i64 (1 + 2 * DF.pn), undef, undef, undef, undef, undef, undef, undef, undef, undef, undef, undef, undef, undef, undef, undef, undef, undef, undef, undef, undef, undef, undef, undef, undef, undef, undef, undef, undef, undef, undef, undef, undef, undef, undef, undef, undef, undef, undef, undef, undef, undef, undef, undef, undef, undef, undef, undef, undef, undef, undef, undef, undef, undef, undef, undef, undef] ?_
          go_upto_region 28 with (fail)
          refine vR ?_
          refine vB cn_big qB47 (cn_size _) ?_
          refine vV (.int .i64 (1 + 2 * DF.pn)) ?_
          refine vC (markCn DT gg2 _ _ _ (1 + 2 * DF.pn) (by omega) (by omega) _ K2) ?_
          have K2_2 := K2.low'
          rintro _ qw74 ⟨rfl, qt75, ms6, hM6, K2n⟩
          refine ⟨_, rfl, ?_⟩
          clear K2
          have K2 := K2n
          clear K2n
          replace qB2 := qB2.touch qt75 (by omega)
          replace qB5 := qB5.touch qt75 (by omega)
          replace qB8 := qB8.touch qt75 (by omega)
          replace qB21 := qB21.touch qt75 (by omega)
          replace qB22 := qB22.touch qt75 (by omega)
          replace qB23 := qB23.touch qt75 (by omega)
          replace qB31 := qB31.touch qt75 (by omega)
          replace qB39 := qB39.touch qt75 (by omega)
          replace qB45 := qB45.touch qt75 (by omega)
          replace qB46 := qB46.touch qt75 (by omega)
          replace qB47 := qB47.touch qt75 (by omega)
          replace H1 := H1.touch qt75 (by omega)
          replace K1 := K1.touch qt75 (by omega)
          replace X1 := X1.touch qt75 (by omega)
          replace X2 := X2.touch qt75 (by omega)
          replace H2 := H2.touch qt75 (by omega)
          replace G := since_touch G qt75 (by omega)
          have qt75_s := qt75.size
          refine vV (.int .i64 ((1 + 2 * DF.pn) + 2 * DT.pn)) ?_
          refine vE #[.agg #[.int .i64 rm0, .string d0, .bool e0, .int .i64 n0], .agg (cnCells c1), .agg (cnCells c2), .pointer (some ⟨w.heap.size, 0, none⟩), .pointer (some ⟨qw1.heap.size, 0, none⟩), .pointer (some ⟨qw4.heap.size, 0, none⟩), .bool false, .int .i64 r2, .pointer (some ⟨qx18, 0, none⟩), .pointer (some ⟨qx19, 0, none⟩), .pointer (some ⟨qx20, 0, none⟩), .pointer (some ⟨qw24.heap.size, 0, none⟩), .pointer (some ⟨qw32.heap.size, 0, none⟩), .pointer (some ⟨qx42, 0, none⟩), .pointer (some ⟨qx43, 0, none⟩), .pointer (some ⟨qx44, 0, none⟩), .int .i64 ((1 + 2 * c1.pn) + 2 * c2.pn), .int .i64 ((1 + 2 * DF.pn) + 2 * DT.pn), undef, undef, undef, undef, .agg #[.int .i64 rm0, .string d0, .bool e0, .int .i64 n0], .int .i64 1048576, .int .i64 l0, .int .i64 l0, .bool (decide (l0 < 0)), .agg (cnCells c1), .int .i64 l0, .int .i64 r1, .int .i64 r1, .bool (decide (r1 < 0)), .agg (cnCells c2), .int .i64 r1, .int .i64 r2, .int .i64 r2, .bool (decide (r2 < 0)), .tuple #[.agg #[.int .i64 rm0, .string xD, .bool xE, .int .i64 xN], .agg (cnCells { DF with pa := some ⟨g1, 0, none⟩, pc := cp1 }), .agg (cnCells { DT with pa := some ⟨gg1, 0, none⟩, pc := cpp1 })], .agg #[.int .i64 rm0, .string d0, .bool e0, .int .i64 n0], .agg #[.int .i64 rm0, .string d0, .bool e0, .int .i64 n0], .agg (cnCells c1), .agg (cnCells { c1 with pa := some ⟨qf3r11, 0, none⟩, pc := c1.pn }), .agg (cnCells c2), .agg (cnCells { c2 with pa := some ⟨qf5r11, 0, none⟩, pc := c2.pn }), .tuple #[.agg #[.int .i64 rm0, .string xD, .bool xE, .int .i64 xN], .agg (cnCells { DF with pa := some ⟨g1c, 0, none⟩, pc := cp1c }), .agg (cnCells { DT with pa := some ⟨gg1c, 0, none⟩, pc := cpp1c })], .agg #[.int .i64 rm0, .string xD, .bool xE, .int .i64 xN], .agg (cnCells { DF with pa := some ⟨g1, 0, none⟩, pc := cp1 }), .agg (cnCells { DT with pa := some ⟨gg1, 0, none⟩, pc := cpp1 }), .agg (cnCells c1), .agg (cnCells { c1 with pa := some ⟨y1, 0, none⟩, pc := c1.pn }), .agg (cnCells c2), .agg (cnCells { c2 with pa := some ⟨y2, 0, none⟩, pc := c2.pn }), .tuple #[.agg #[.int .i64 rm0, .string xD, .bool xE, .int .i64 xN], .agg (cnCells { DF with pa := some ⟨g2, 0, none⟩, pc := cp2 }), .agg (cnCells { DT with pa := some ⟨gg2, 0, none⟩, pc := cpp2 })], .agg #[.int .i64 rm0, .string d0, .bool e0, .int .i64 n0], .agg #[.int .i64 rm0, .string d0, .bool e0, .int .i64 n0], .agg (cnCells { c1 with pa := some ⟨y1, 0, none⟩, pc := c1.pn }), .agg (cnCells { c2 with pa := some ⟨y2, 0, none⟩, pc := c2.pn }), .tuple #[.agg #[.int .i64 rm0, .string xD, .bool xE, .int .i64 xN], .agg (cnCells { DF with pa := some ⟨g2c, 0, none⟩, pc := cp2c }), .agg (cnCells { DT with pa := some ⟨gg2c, 0, none⟩, pc := cpp2c })], .agg #[.int .i64 rm0, .string xD, .bool xE, .int .i64 xN], .agg (cnCells { DF with pa := some ⟨g2, 0, none⟩, pc := cp2 }), .agg (cnCells { DT with pa := some ⟨gg2, 0, none⟩, pc := cpp2 }), .agg #[.int .i64 rm0, .string xD, .bool xE, .int .i64 xN], .agg #[.int .i64 rm0, .string xD, .bool xE, .int .i64 xN], .bool true, .bool false, .bool false, .agg (cnCells { DF with pa := some ⟨g2, 0, none⟩, pc := cp2 }), .agg (cnCells { DF with pa := some ⟨g1, 0, none⟩, pc := cp1 }), .bool true, .bool false, .bool false, .bool false, .agg (cnCells { DT with pa := some ⟨gg2, 0, none⟩, pc := cpp2 }), .agg (cnCells { DT with pa := some ⟨gg1, 0, none⟩, pc := cpp1 }), .bool true, .bool false, .bool false, .agg (cnCells { c1 with pa := some ⟨y1, 0, none⟩, pc := c1.pn }), .agg (cnCells c1), .agg (cnCells { c1 with pa := some ⟨qz57, 0, none⟩, pc := c1.pn }), .bool true, .bool false, .agg (cnCells { c2 with pa := some ⟨y2, 0, none⟩, pc := c2.pn }), .agg (cnCells c2), .agg (cnCells { c2 with pa := some ⟨qz61, 0, none⟩, pc := c2.pn }), .bool true, .bool false, .agg (cnCells { c1 with pa := some ⟨y1, 0, none⟩, pc := c1.pn }), .int .i64 1, .int .i64 (1 + 2 * c1.pn), .agg (cnCells { c2 with pa := some ⟨y2, 0, none⟩, pc := c2.pn }), .int .i64 (1 + 2 * c1.pn), .int .i64 ((1 + 2 * c1.pn) + 2 * c2.pn), .int .i64 ((1 + 2 * c1.pn) + 2 * c2.pn), .bool false, .bool false, .agg #[.int .i64 rm0, .string xD, .bool xE, .int .i64 xN], .agg #[.int .i64 rm0, .string xD, .bool xE, .int .i64 xN], .bool true, .bool false, .bool false, .bool false, .agg (cnCells { DF with pa := some ⟨g2, 0, none⟩, pc := cp2 }), .agg (cnCells { DF with pa := some ⟨g1, 0, none⟩, pc := cp1 }), .bool true, .bool false, .bool false, .bool false, .agg (cnCells { DT with pa := some ⟨gg2, 0, none⟩, pc := cpp2 }), .agg (cnCells { DT with pa := some ⟨gg1, 0, none⟩, pc := cpp1 }), .bool true, .bool false, .bool false, .agg (cnCells { DF with pa := some ⟨g2, 0, none⟩, pc := cp2 }), .int .i64 1, .int .i64 (1 + 2 * DF.pn), .agg (cnCells { DT with pa := some ⟨gg2, 0, none⟩, pc := cpp2 }), .int .i64 (1 + 2 * DF.pn), .int .i64 ((1 + 2 * DF.pn) + 2 * DT.pn), undef, undef, undef, undef, undef, undef, undef, undef, undef, undef, undef, undef, undef, undef, undef, undef, undef, undef, undef, undef, undef, undef, undef, undef, undef, undef, undef, undef, undef, undef, undef, undef, undef, undef, undef, undef, undef, undef, undef, undef, undef, undef, undef, undef, undef, undef, undef, undef, undef, undef, undef, undef, undef] ?_
          go_upto_region 30 with (fail)
          refine vR ?_
          refine vB cn_big qB46 (cn_size _) ?_
          refine vV (.int .i64 1) ?_
          refine vK (heldCn DF g2 _ _ _ 1 (by omega) (by omega) _ H2 hM5) ?_
          intro qw76 qg77
          replace qB2 := qB2.since qg77
          replace qB5 := qB5.since qg77
          replace qB8 := qB8.since qg77
          replace qB21 := qB21.since qg77
          replace qB22 := qB22.since qg77
          replace qB23 := qB23.since qg77
          replace qB31 := qB31.since qg77
          replace qB39 := qB39.since qg77
          replace qB45 := qB45.since qg77
          replace qB46 := qB46.since qg77
          replace qB47 := qB47.since qg77
          replace H1 := H1.since qg77
          replace K1 := K1.since qg77
          replace X1 := X1.since qg77
          replace X2 := X2.since qg77
          replace H2 := H2.since qg77
          replace K2 := K2.since qg77
          replace G := G.trans qg77
          have qg77_s := qg77.size
          refine vV (.int .i64 (1 + 2 * DF.pn)) ?_
          refine vE #[.agg #[.int .i64 rm0, .string d0, .bool e0, .int .i64 n0], .agg (cnCells c1), .agg (cnCells c2), .pointer (some ⟨w.heap.size, 0, none⟩), .pointer (some ⟨qw1.heap.size, 0, none⟩), .pointer (some ⟨qw4.heap.size, 0, none⟩), .bool false, .int .i64 r2, .pointer (some ⟨qx18, 0, none⟩), .pointer (some ⟨qx19, 0, none⟩), .pointer (some ⟨qx20, 0, none⟩), .pointer (some ⟨qw24.heap.size, 0, none⟩), .pointer (some ⟨qw32.heap.size, 0, none⟩), .pointer (some ⟨qx42, 0, none⟩), .pointer (some ⟨qx43, 0, none⟩), .pointer (some ⟨qx44, 0, none⟩), .int .i64 ((1 + 2 * c1.pn) + 2 * c2.pn), .int .i64 ((1 + 2 * DF.pn) + 2 * DT.pn), .int .i64 (1 + 2 * DF.pn), undef, undef, undef, .agg #[.int .i64 rm0, .string d0, .bool e0, .int .i64 n0], .int .i64 1048576, .int .i64 l0, .int .i64 l0, .bool (decide (l0 < 0)), .agg (cnCells c1), .int .i64 l0, .int .i64 r1, .int .i64 r1, .bool (decide (r1 < 0)), .agg (cnCells c2), .int .i64 r1, .int .i64 r2, .int .i64 r2, .bool (decide (r2 < 0)), .tuple #[.agg #[.int .i64 rm0, .string xD, .bool xE, .int .i64 xN], .agg (cnCells { DF with pa := some ⟨g1, 0, none⟩, pc := cp1 }), .agg (cnCells { DT with pa := some ⟨gg1, 0, none⟩, pc := cpp1 })], .agg #[.int .i64 rm0, .string d0, .bool e0, .int .i64 n0], .agg #[.int .i64 rm0, .string d0, .bool e0, .int .i64 n0], .agg (cnCells c1), .agg (cnCells { c1 with pa := some ⟨qf3r11, 0, none⟩, pc := c1.pn }), .agg (cnCells c2), .agg (cnCells { c2 with pa := some ⟨qf5r11, 0, none⟩, pc := c2.pn }), .tuple #[.agg #[.int .i64 rm0, .string xD, .bool xE, .int .i64 xN], .agg (cnCells { DF with pa := some ⟨g1c, 0, none⟩, pc := cp1c }), .agg (cnCells { DT with pa := some ⟨gg1c, 0, none⟩, pc := cpp1c })], .agg #[.int .i64 rm0, .string xD, .bool xE, .int .i64 xN], .agg (cnCells { DF with pa := some ⟨g1, 0, none⟩, pc := cp1 }), .agg (cnCells { DT with pa := some ⟨gg1, 0, none⟩, pc := cpp1 }), .agg (cnCells c1), .agg (cnCells { c1 with pa := some ⟨y1, 0, none⟩, pc := c1.pn }), .agg (cnCells c2), .agg (cnCells { c2 with pa := some ⟨y2, 0, none⟩, pc := c2.pn }), .tuple #[.agg #[.int .i64 rm0, .string xD, .bool xE, .int .i64 xN], .agg (cnCells { DF with pa := some ⟨g2, 0, none⟩, pc := cp2 }), .agg (cnCells { DT with pa := some ⟨gg2, 0, none⟩, pc := cpp2 })], .agg #[.int .i64 rm0, .string d0, .bool e0, .int .i64 n0], .agg #[.int .i64 rm0, .string d0, .bool e0, .int .i64 n0], .agg (cnCells { c1 with pa := some ⟨y1, 0, none⟩, pc := c1.pn }), .agg (cnCells { c2 with pa := some ⟨y2, 0, none⟩, pc := c2.pn }), .tuple #[.agg #[.int .i64 rm0, .string xD, .bool xE, .int .i64 xN], .agg (cnCells { DF with pa := some ⟨g2c, 0, none⟩, pc := cp2c }), .agg (cnCells { DT with pa := some ⟨gg2c, 0, none⟩, pc := cpp2c })], .agg #[.int .i64 rm0, .string xD, .bool xE, .int .i64 xN], .agg (cnCells { DF with pa := some ⟨g2, 0, none⟩, pc := cp2 }), .agg (cnCells { DT with pa := some ⟨gg2, 0, none⟩, pc := cpp2 }), .agg #[.int .i64 rm0, .string xD, .bool xE, .int .i64 xN], .agg #[.int .i64 rm0, .string xD, .bool xE, .int .i64 xN], .bool true, .bool false, .bool false, .agg (cnCells { DF with pa := some ⟨g2, 0, none⟩, pc := cp2 }), .agg (cnCells { DF with pa := some ⟨g1, 0, none⟩, pc := cp1 }), .bool true, .bool false, .bool false, .bool false, .agg (cnCells { DT with pa := some ⟨gg2, 0, none⟩, pc := cpp2 }), .agg (cnCells { DT with pa := some ⟨gg1, 0, none⟩, pc := cpp1 }), .bool true, .bool false, .bool false, .agg (cnCells { c1 with pa := some ⟨y1, 0, none⟩, pc := c1.pn }), .agg (cnCells c1), .agg (cnCells { c1 with pa := some ⟨qz57, 0, none⟩, pc := c1.pn }), .bool true, .bool false, .agg (cnCells { c2 with pa := some ⟨y2, 0, none⟩, pc := c2.pn }), .agg (cnCells c2), .agg (cnCells { c2 with pa := some ⟨qz61, 0, none⟩, pc := c2.pn }), .bool true, .bool false, .agg (cnCells { c1 with pa := some ⟨y1, 0, none⟩, pc := c1.pn }), .int .i64 1, .int .i64 (1 + 2 * c1.pn), .agg (cnCells { c2 with pa := some ⟨y2, 0, none⟩, pc := c2.pn }), .int .i64 (1 + 2 * c1.pn), .int .i64 ((1 + 2 * c1.pn) + 2 * c2.pn), .int .i64 ((1 + 2 * c1.pn) + 2 * c2.pn), .bool false, .bool false, .agg #[.int .i64 rm0, .string xD, .bool xE, .int .i64 xN], .agg #[.int .i64 rm0, .string xD, .bool xE, .int .i64 xN], .bool true, .bool false, .bool false, .bool false, .agg (cnCells { DF with pa := some ⟨g2, 0, none⟩, pc := cp2 }), .agg (cnCells { DF with pa := some ⟨g1, 0, none⟩, pc := cp1 }), .bool true, .bool false, .bool false, .bool false, .agg (cnCells { DT with pa := some ⟨gg2, 0, none⟩, pc := cpp2 }), .agg (cnCells { DT with pa := some ⟨gg1, 0, none⟩, pc := cpp1 }), .bool true, .bool false, .bool false, .agg (cnCells { DF with pa := some ⟨g2, 0, none⟩, pc := cp2 }), .int .i64 1, .int .i64 (1 + 2 * DF.pn), .agg (cnCells { DT with pa := some ⟨gg2, 0, none⟩, pc := cpp2 }), .int .i64 (1 + 2 * DF.pn), .int .i64 ((1 + 2 * DF.pn) + 2 * DT.pn), .agg (cnCells { DF with pa := some ⟨g2, 0, none⟩, pc := cp2 }), .int .i64 1, .int .i64 (1 + 2 * DF.pn), undef, undef, undef, undef, undef, undef, undef, undef, undef, undef, undef, undef, undef, undef, undef, undef, undef, undef, undef, undef, undef, undef, undef, undef, undef, undef, undef, undef, undef, undef, undef, undef, undef, undef, undef, undef, undef, undef, undef, undef, undef, undef, undef, undef, undef, undef, undef, undef, undef, undef] ?_
          go_upto_region 33 with (fail)
          refine vR ?_
          refine vB cn_big qB47 (cn_size _) ?_
          refine vV (.int .i64 (1 + 2 * DF.pn)) ?_
          refine vK (heldCn DT gg2 _ _ _ (1 + 2 * DF.pn) (by omega) (by omega) _ K2 hM6) ?_
          intro qw78 qg79
          replace qB2 := qB2.since qg79
          replace qB5 := qB5.since qg79
          replace qB8 := qB8.since qg79
          replace qB21 := qB21.since qg79
          replace qB22 := qB22.since qg79
          replace qB23 := qB23.since qg79
          replace qB31 := qB31.since qg79
          replace qB39 := qB39.since qg79
          replace qB45 := qB45.since qg79
          replace qB46 := qB46.since qg79
          replace qB47 := qB47.since qg79
          replace H1 := H1.since qg79
          replace K1 := K1.since qg79
          replace X1 := X1.since qg79
          replace X2 := X2.since qg79
          replace H2 := H2.since qg79
          replace K2 := K2.since qg79
          replace G := G.trans qg79
          have qg79_s := qg79.size
          refine vV (.int .i64 ((1 + 2 * DF.pn) + 2 * DT.pn)) ?_
          refine vE #[.agg #[.int .i64 rm0, .string d0, .bool e0, .int .i64 n0], .agg (cnCells c1), .agg (cnCells c2), .pointer (some ⟨w.heap.size, 0, none⟩), .pointer (some ⟨qw1.heap.size, 0, none⟩), .pointer (some ⟨qw4.heap.size, 0, none⟩), .bool false, .int .i64 r2, .pointer (some ⟨qx18, 0, none⟩), .pointer (some ⟨qx19, 0, none⟩), .pointer (some ⟨qx20, 0, none⟩), .pointer (some ⟨qw24.heap.size, 0, none⟩), .pointer (some ⟨qw32.heap.size, 0, none⟩), .pointer (some ⟨qx42, 0, none⟩), .pointer (some ⟨qx43, 0, none⟩), .pointer (some ⟨qx44, 0, none⟩), .int .i64 ((1 + 2 * c1.pn) + 2 * c2.pn), .int .i64 ((1 + 2 * DF.pn) + 2 * DT.pn), .int .i64 ((1 + 2 * DF.pn) + 2 * DT.pn), undef, undef, undef, .agg #[.int .i64 rm0, .string d0, .bool e0, .int .i64 n0], .int .i64 1048576, .int .i64 l0, .int .i64 l0, .bool (decide (l0 < 0)), .agg (cnCells c1), .int .i64 l0, .int .i64 r1, .int .i64 r1, .bool (decide (r1 < 0)), .agg (cnCells c2), .int .i64 r1, .int .i64 r2, .int .i64 r2, .bool (decide (r2 < 0)), .tuple #[.agg #[.int .i64 rm0, .string xD, .bool xE, .int .i64 xN], .agg (cnCells { DF with pa := some ⟨g1, 0, none⟩, pc := cp1 }), .agg (cnCells { DT with pa := some ⟨gg1, 0, none⟩, pc := cpp1 })], .agg #[.int .i64 rm0, .string d0, .bool e0, .int .i64 n0], .agg #[.int .i64 rm0, .string d0, .bool e0, .int .i64 n0], .agg (cnCells c1), .agg (cnCells { c1 with pa := some ⟨qf3r11, 0, none⟩, pc := c1.pn }), .agg (cnCells c2), .agg (cnCells { c2 with pa := some ⟨qf5r11, 0, none⟩, pc := c2.pn }), .tuple #[.agg #[.int .i64 rm0, .string xD, .bool xE, .int .i64 xN], .agg (cnCells { DF with pa := some ⟨g1c, 0, none⟩, pc := cp1c }), .agg (cnCells { DT with pa := some ⟨gg1c, 0, none⟩, pc := cpp1c })], .agg #[.int .i64 rm0, .string xD, .bool xE, .int .i64 xN], .agg (cnCells { DF with pa := some ⟨g1, 0, none⟩, pc := cp1 }), .agg (cnCells { DT with pa := some ⟨gg1, 0, none⟩, pc := cpp1 }), .agg (cnCells c1), .agg (cnCells { c1 with pa := some ⟨y1, 0, none⟩, pc := c1.pn }), .agg (cnCells c2), .agg (cnCells { c2 with pa := some ⟨y2, 0, none⟩, pc := c2.pn }), .tuple #[.agg #[.int .i64 rm0, .string xD, .bool xE, .int .i64 xN], .agg (cnCells { DF with pa := some ⟨g2, 0, none⟩, pc := cp2 }), .agg (cnCells { DT with pa := some ⟨gg2, 0, none⟩, pc := cpp2 })], .agg #[.int .i64 rm0, .string d0, .bool e0, .int .i64 n0], .agg #[.int .i64 rm0, .string d0, .bool e0, .int .i64 n0], .agg (cnCells { c1 with pa := some ⟨y1, 0, none⟩, pc := c1.pn }), .agg (cnCells { c2 with pa := some ⟨y2, 0, none⟩, pc := c2.pn }), .tuple #[.agg #[.int .i64 rm0, .string xD, .bool xE, .int .i64 xN], .agg (cnCells { DF with pa := some ⟨g2c, 0, none⟩, pc := cp2c }), .agg (cnCells { DT with pa := some ⟨gg2c, 0, none⟩, pc := cpp2c })], .agg #[.int .i64 rm0, .string xD, .bool xE, .int .i64 xN], .agg (cnCells { DF with pa := some ⟨g2, 0, none⟩, pc := cp2 }), .agg (cnCells { DT with pa := some ⟨gg2, 0, none⟩, pc := cpp2 }), .agg #[.int .i64 rm0, .string xD, .bool xE, .int .i64 xN], .agg #[.int .i64 rm0, .string xD, .bool xE, .int .i64 xN], .bool true, .bool false, .bool false, .agg (cnCells { DF with pa := some ⟨g2, 0, none⟩, pc := cp2 }), .agg (cnCells { DF with pa := some ⟨g1, 0, none⟩, pc := cp1 }), .bool true, .bool false, .bool false, .bool false, .agg (cnCells { DT with pa := some ⟨gg2, 0, none⟩, pc := cpp2 }), .agg (cnCells { DT with pa := some ⟨gg1, 0, none⟩, pc := cpp1 }), .bool true, .bool false, .bool false, .agg (cnCells { c1 with pa := some ⟨y1, 0, none⟩, pc := c1.pn }), .agg (cnCells c1), .agg (cnCells { c1 with pa := some ⟨qz57, 0, none⟩, pc := c1.pn }), .bool true, .bool false, .agg (cnCells { c2 with pa := some ⟨y2, 0, none⟩, pc := c2.pn }), .agg (cnCells c2), .agg (cnCells { c2 with pa := some ⟨qz61, 0, none⟩, pc := c2.pn }), .bool true, .bool false, .agg (cnCells { c1 with pa := some ⟨y1, 0, none⟩, pc := c1.pn }), .int .i64 1, .int .i64 (1 + 2 * c1.pn), .agg (cnCells { c2 with pa := some ⟨y2, 0, none⟩, pc := c2.pn }), .int .i64 (1 + 2 * c1.pn), .int .i64 ((1 + 2 * c1.pn) + 2 * c2.pn), .int .i64 ((1 + 2 * c1.pn) + 2 * c2.pn), .bool false, .bool false, .agg #[.int .i64 rm0, .string xD, .bool xE, .int .i64 xN], .agg #[.int .i64 rm0, .string xD, .bool xE, .int .i64 xN], .bool true, .bool false, .bool false, .bool false, .agg (cnCells { DF with pa := some ⟨g2, 0, none⟩, pc := cp2 }), .agg (cnCells { DF with pa := some ⟨g1, 0, none⟩, pc := cp1 }), .bool true, .bool false, .bool false, .bool false, .agg (cnCells { DT with pa := some ⟨gg2, 0, none⟩, pc := cpp2 }), .agg (cnCells { DT with pa := some ⟨gg1, 0, none⟩, pc := cpp1 }), .bool true, .bool false, .bool false, .agg (cnCells { DF with pa := some ⟨g2, 0, none⟩, pc := cp2 }), .int .i64 1, .int .i64 (1 + 2 * DF.pn), .agg (cnCells { DT with pa := some ⟨gg2, 0, none⟩, pc := cpp2 }), .int .i64 (1 + 2 * DF.pn), .int .i64 ((1 + 2 * DF.pn) + 2 * DT.pn), .agg (cnCells { DF with pa := some ⟨g2, 0, none⟩, pc := cp2 }), .int .i64 1, .int .i64 (1 + 2 * DF.pn), .int .i64 (1 + 2 * DF.pn), .bool (decide ((1 + 2 * DF.pn) < 0)), .agg (cnCells { DT with pa := some ⟨gg2, 0, none⟩, pc := cpp2 }), .int .i64 (1 + 2 * DF.pn), .int .i64 ((1 + 2 * DF.pn) + 2 * DT.pn), undef, undef, undef, undef, undef, undef, undef, undef, undef, undef, undef, undef, undef, undef, undef, undef, undef, undef, undef, undef, undef, undef, undef, undef, undef, undef, undef, undef, undef, undef, undef, undef, undef, undef, undef, undef, undef, undef, undef, undef, undef, undef, undef, undef, undef] ?_
          go_upto_region 38 with (fail)
          have hg_3 := G.size
          refine wp_region_low KeepsT (fun i x v => match i with
              | 0 => v = .agg #[.int .i64 rm0, .string d0, .bool e0, .int .i64 n0]
              | 1 => v = .agg #[.int .i64 rm0, .string d0, .bool e0, .int .i64 n0]
              | 2 => v = .agg (cnCells c1)
              | 3 => ∃ q, v = .agg (cnCells { c1 with pa := some ⟨q, 0, none⟩, pc := c1.pn }) ∧ Held shP x qw78.heap.size q c1.pn c1.pn p1
              | 4 => v = .agg (cnCells c2)
              | 5 => ∃ q, v = .agg (cnCells { c2 with pa := some ⟨q, 0, none⟩, pc := c2.pn }) ∧ Held shP x qw78.heap.size q c2.pn c2.pn p2
              | 6 => ∃ g3 cp3 gg3 cpp3, v = .tuple #[.agg #[.int .i64 rm0, .string xD, .bool xE, .int .i64 xN], .agg (cnCells { DF with pa := some ⟨g3, 0, none⟩, pc := cp3 }), .agg (cnCells { DT with pa := some ⟨gg3, 0, none⟩, pc := cpp3 })] ∧ Held shP x qw78.heap.size g3 c1.pn cp3 p1 ∧ Held shP x qw78.heap.size gg3 c2.pn cpp3 p2 ∧ g3 ≠ gg3
              | 7 => ∃ g3 cp3 gg3 cpp3, v = .tuple #[.agg #[.int .i64 rm0, .string xD, .bool xE, .int .i64 xN], .agg (cnCells { DF with pa := some ⟨g3, 0, none⟩, pc := cp3 }), .agg (cnCells { DT with pa := some ⟨gg3, 0, none⟩, pc := cpp3 })] ∧ Held shP x qw78.heap.size g3 c1.pn cp3 p1 ∧ Held shP x qw78.heap.size gg3 c2.pn cpp3 p2 ∧ g3 ≠ gg3
              | 11 => ∃ b, v = .pointer (some ⟨b, 0, none⟩) ∧ qw78.heap.size ≤ b ∧ Typed 38 4 b x
              | 12 => ∃ b, v = .pointer (some ⟨b, 0, none⟩) ∧ qw78.heap.size ≤ b ∧ Typed 46 37 b x
              | 13 => ∃ b, v = .pointer (some ⟨b, 0, none⟩) ∧ qw78.heap.size ≤ b ∧ Typed 46 37 b x
              | _ => True)
              (fun f vals x => Since qw78 x ∧ (f 8 = true → f 7 = true ∧ ∀ a0 a1 a2, vals 7 = .tuple #[a0, a1, a2] → vals 8 = a0) ∧ (f 9 = true → f 7 = true ∧ ∀ a0 a1 a2, vals 7 = .tuple #[a0, a1, a2] → vals 9 = a1) ∧ (f 10 = true → f 7 = true ∧ ∀ a0 a1 a2, vals 7 = .tuple #[a0, a1, a2] → vals 10 = a2) ∧ (f 11 = true → ∃ b, vals 11 = .pointer (some ⟨b, 0, none⟩) ∧ b < x.heap.size) ∧ (f 12 = true → ∃ b, vals 12 = .pointer (some ⟨b, 0, none⟩) ∧ b < x.heap.size) ∧ (f 13 = true → ∃ b, vals 13 = .pointer (some ⟨b, 0, none⟩) ∧ b < x.heap.size) ∧ (f 11 = true → f 12 = true → vals 11 ≠ vals 12) ∧ (f 11 = true → f 13 = true → vals 11 ≠ vals 13) ∧ (f 12 = true → f 13 = true → vals 12 ≠ vals 13) ∧ (f 14 = true → f 11 = true ∧ f 8 = true ∧ ∃ b cs, vals 11 = .pointer (some ⟨b, 0, none⟩) ∧ vals 8 = .agg cs ∧ Blk b x cs) ∧ (f 15 = true → f 12 = true ∧ f 9 = true ∧ ∃ b cs, vals 12 = .pointer (some ⟨b, 0, none⟩) ∧ vals 9 = .agg cs ∧ Blk b x cs) ∧ (f 16 = true → f 13 = true ∧ f 10 = true ∧ ∃ b cs, vals 13 = .pointer (some ⟨b, 0, none⟩) ∧ vals 10 = .agg cs ∧ Blk b x cs))
              (fun v => { tmps := #[.agg #[.int .i64 rm0, .string d0, .bool e0, .int .i64 n0], .agg (cnCells c1), .agg (cnCells c2), .pointer (some ⟨w.heap.size, 0, none⟩), .pointer (some ⟨qw1.heap.size, 0, none⟩), .pointer (some ⟨qw4.heap.size, 0, none⟩), .bool false, .int .i64 r2, .pointer (some ⟨qx18, 0, none⟩), .pointer (some ⟨qx19, 0, none⟩), .pointer (some ⟨qx20, 0, none⟩), .pointer (some ⟨qw24.heap.size, 0, none⟩), .pointer (some ⟨qw32.heap.size, 0, none⟩), .pointer (some ⟨qx42, 0, none⟩), .pointer (some ⟨qx43, 0, none⟩), .pointer (some ⟨qx44, 0, none⟩), .int .i64 ((1 + 2 * c1.pn) + 2 * c2.pn), .int .i64 ((1 + 2 * DF.pn) + 2 * DT.pn), .int .i64 ((1 + 2 * DF.pn) + 2 * DT.pn), v 11, v 12, v 13, .agg #[.int .i64 rm0, .string d0, .bool e0, .int .i64 n0], .int .i64 1048576, .int .i64 l0, .int .i64 l0, .bool (decide (l0 < 0)), .agg (cnCells c1), .int .i64 l0, .int .i64 r1, .int .i64 r1, .bool (decide (r1 < 0)), .agg (cnCells c2), .int .i64 r1, .int .i64 r2, .int .i64 r2, .bool (decide (r2 < 0)), .tuple #[.agg #[.int .i64 rm0, .string xD, .bool xE, .int .i64 xN], .agg (cnCells { DF with pa := some ⟨g1, 0, none⟩, pc := cp1 }), .agg (cnCells { DT with pa := some ⟨gg1, 0, none⟩, pc := cpp1 })], .agg #[.int .i64 rm0, .string d0, .bool e0, .int .i64 n0], .agg #[.int .i64 rm0, .string d0, .bool e0, .int .i64 n0], .agg (cnCells c1), .agg (cnCells { c1 with pa := some ⟨qf3r11, 0, none⟩, pc := c1.pn }), .agg (cnCells c2), .agg (cnCells { c2 with pa := some ⟨qf5r11, 0, none⟩, pc := c2.pn }), .tuple #[.agg #[.int .i64 rm0, .string xD, .bool xE, .int .i64 xN], .agg (cnCells { DF with pa := some ⟨g1c, 0, none⟩, pc := cp1c }), .agg (cnCells { DT with pa := some ⟨gg1c, 0, none⟩, pc := cpp1c })], .agg #[.int .i64 rm0, .string xD, .bool xE, .int .i64 xN], .agg (cnCells { DF with pa := some ⟨g1, 0, none⟩, pc := cp1 }), .agg (cnCells { DT with pa := some ⟨gg1, 0, none⟩, pc := cpp1 }), .agg (cnCells c1), .agg (cnCells { c1 with pa := some ⟨y1, 0, none⟩, pc := c1.pn }), .agg (cnCells c2), .agg (cnCells { c2 with pa := some ⟨y2, 0, none⟩, pc := c2.pn }), .tuple #[.agg #[.int .i64 rm0, .string xD, .bool xE, .int .i64 xN], .agg (cnCells { DF with pa := some ⟨g2, 0, none⟩, pc := cp2 }), .agg (cnCells { DT with pa := some ⟨gg2, 0, none⟩, pc := cpp2 })], .agg #[.int .i64 rm0, .string d0, .bool e0, .int .i64 n0], .agg #[.int .i64 rm0, .string d0, .bool e0, .int .i64 n0], .agg (cnCells { c1 with pa := some ⟨y1, 0, none⟩, pc := c1.pn }), .agg (cnCells { c2 with pa := some ⟨y2, 0, none⟩, pc := c2.pn }), .tuple #[.agg #[.int .i64 rm0, .string xD, .bool xE, .int .i64 xN], .agg (cnCells { DF with pa := some ⟨g2c, 0, none⟩, pc := cp2c }), .agg (cnCells { DT with pa := some ⟨gg2c, 0, none⟩, pc := cpp2c })], .agg #[.int .i64 rm0, .string xD, .bool xE, .int .i64 xN], .agg (cnCells { DF with pa := some ⟨g2, 0, none⟩, pc := cp2 }), .agg (cnCells { DT with pa := some ⟨gg2, 0, none⟩, pc := cpp2 }), .agg #[.int .i64 rm0, .string xD, .bool xE, .int .i64 xN], .agg #[.int .i64 rm0, .string xD, .bool xE, .int .i64 xN], .bool true, .bool false, .bool false, .agg (cnCells { DF with pa := some ⟨g2, 0, none⟩, pc := cp2 }), .agg (cnCells { DF with pa := some ⟨g1, 0, none⟩, pc := cp1 }), .bool true, .bool false, .bool false, .bool false, .agg (cnCells { DT with pa := some ⟨gg2, 0, none⟩, pc := cpp2 }), .agg (cnCells { DT with pa := some ⟨gg1, 0, none⟩, pc := cpp1 }), .bool true, .bool false, .bool false, .agg (cnCells { c1 with pa := some ⟨y1, 0, none⟩, pc := c1.pn }), .agg (cnCells c1), .agg (cnCells { c1 with pa := some ⟨qz57, 0, none⟩, pc := c1.pn }), .bool true, .bool false, .agg (cnCells { c2 with pa := some ⟨y2, 0, none⟩, pc := c2.pn }), .agg (cnCells c2), .agg (cnCells { c2 with pa := some ⟨qz61, 0, none⟩, pc := c2.pn }), .bool true, .bool false, .agg (cnCells { c1 with pa := some ⟨y1, 0, none⟩, pc := c1.pn }), .int .i64 1, .int .i64 (1 + 2 * c1.pn), .agg (cnCells { c2 with pa := some ⟨y2, 0, none⟩, pc := c2.pn }), .int .i64 (1 + 2 * c1.pn), .int .i64 ((1 + 2 * c1.pn) + 2 * c2.pn), .int .i64 ((1 + 2 * c1.pn) + 2 * c2.pn), .bool false, .bool false, .agg #[.int .i64 rm0, .string xD, .bool xE, .int .i64 xN], .agg #[.int .i64 rm0, .string xD, .bool xE, .int .i64 xN], .bool true, .bool false, .bool false, .bool false, .agg (cnCells { DF with pa := some ⟨g2, 0, none⟩, pc := cp2 }), .agg (cnCells { DF with pa := some ⟨g1, 0, none⟩, pc := cp1 }), .bool true, .bool false, .bool false, .bool false, .agg (cnCells { DT with pa := some ⟨gg2, 0, none⟩, pc := cpp2 }), .agg (cnCells { DT with pa := some ⟨gg1, 0, none⟩, pc := cpp1 }), .bool true, .bool false, .bool false, .agg (cnCells { DF with pa := some ⟨g2, 0, none⟩, pc := cp2 }), .int .i64 1, .int .i64 (1 + 2 * DF.pn), .agg (cnCells { DT with pa := some ⟨gg2, 0, none⟩, pc := cpp2 }), .int .i64 (1 + 2 * DF.pn), .int .i64 ((1 + 2 * DF.pn) + 2 * DT.pn), .agg (cnCells { DF with pa := some ⟨g2, 0, none⟩, pc := cp2 }), .int .i64 1, .int .i64 (1 + 2 * DF.pn), .int .i64 (1 + 2 * DF.pn), .bool (decide ((1 + 2 * DF.pn) < 0)), .agg (cnCells { DT with pa := some ⟨gg2, 0, none⟩, pc := cpp2 }), .int .i64 (1 + 2 * DF.pn), .int .i64 ((1 + 2 * DF.pn) + 2 * DT.pn), .int .i64 ((1 + 2 * DF.pn) + 2 * DT.pn), .bool (decide (((1 + 2 * DF.pn) + 2 * DT.pn) < 0)), .int .i64 ((1 + 2 * DF.pn) + 2 * DT.pn), .int .i64 ((1 + 2 * DF.pn) + 2 * DT.pn), .bool false, v 7, v 0, v 1, v 2, v 3, v 4, v 5, v 6, v 8, v 9, v 10, undef, undef, undef, undef, undef, undef, undef, undef, undef, undef, undef, undef, undef, undef, undef, undef, undef, undef, undef, undef, undef, undef, undef, undef, undef, undef, undef, undef, undef], defers := [] }) (by kernel_rfl) (by kernel_rfl) ?_ ?_ (fun vals => by kernel_rfl) ?_ ?_
          case refine_1 =>
            intro j x y v hl hv
            match j, hv with
            | 0, hv => exact hv
            | 1, hv => exact hv
            | 2, hv => exact hv
            | 3, ⟨q, e, H⟩ => exact ⟨q, e, hl.1 _ _ _ _ _ H⟩
            | 4, hv => exact hv
            | 5, ⟨q, e, H⟩ => exact ⟨q, e, hl.1 _ _ _ _ _ H⟩
            | 6, ⟨g3, cp3, gg3, cpp3, e, H3, K3, hne3⟩ => exact ⟨g3, cp3, gg3, cpp3, e, hl.1 _ _ _ _ _ H3, hl.1 _ _ _ _ _ K3, hne3⟩
            | 7, ⟨g3, cp3, gg3, cpp3, e, H3, K3, hne3⟩ => exact ⟨g3, cp3, gg3, cpp3, e, hl.1 _ _ _ _ _ H3, hl.1 _ _ _ _ _ K3, hne3⟩
            | 11, ⟨b, e, l, t⟩ => exact ⟨b, e, l, hl.2 _ _ _ t⟩
            | 12, ⟨b, e, l, t⟩ => exact ⟨b, e, l, hl.2 _ _ _ t⟩
            | 13, ⟨b, e, l, t⟩ => exact ⟨b, e, l, hl.2 _ _ _ t⟩
            | 8, _ | 9, _ | 10, _ | 14, _ | 15, _ | 16, _ => trivial
            | n + 17, _ => trivial
          case refine_2 =>
            intro f vals hf
            exact ⟨((Since.refl _).drew), (fun h => by rw [hf 8] at h; cases h), (fun h => by rw [hf 9] at h; cases h), (fun h => by rw [hf 10] at h; cases h), (fun h => by rw [hf 11] at h; cases h), (fun h => by rw [hf 12] at h; cases h), (fun h => by rw [hf 13] at h; cases h), (fun h => by rw [hf 11] at h; cases h), (fun h => by rw [hf 11] at h; cases h), (fun h => by rw [hf 12] at h; cases h), (fun h => by rw [hf 14] at h; cases h), (fun h => by rw [hf 15] at h; cases h), (fun h => by rw [hf 16] at h; cases h)⟩
          case refine_3 =>
            repeat (first | exact eachLow_nil | refine eachLow_cons ?_ ?_)
            all_goals intro f vals x hf hr hK
            all_goals obtain ⟨k0, x0, x1, x2, b0, b1, b2, d01, d02, d12, s0, s1, s2⟩ := hK
            · obtain ⟨fa, b, ea, la, ta⟩ := hr ⟨13, .data⟩ (by simp) rfl
              obtain ⟨fe, -⟩ := hr ⟨10, .data⟩ (by simp) rfl
              obtain ⟨-, g3, cp3, gg3, cpp3, e7, -⟩ := hr ⟨7, .phase⟩ (by simp) rfl
              have ee := (x2 fe).2 _ _ _ e7
              refine does_storeT cn_big (cn_size _) ta (by decide) (cn_one _) _ _ rfl ea ee ?_
              intro z hk t B
              exact ⟨hk, ⟨since_touch k0 t la, x0, x1, x2, (fun h => by obtain ⟨b, e, l⟩ := b0 h; exact ⟨b, e, Nat.lt_of_lt_of_le l t.size⟩), (fun h => by obtain ⟨b, e, l⟩ := b1 h; exact ⟨b, e, Nat.lt_of_lt_of_le l t.size⟩), (fun h => by obtain ⟨b, e, l⟩ := b2 h; exact ⟨b, e, Nat.lt_of_lt_of_le l t.size⟩), d01, d02, d12, (fun h => by obtain ⟨f1, f2, b', cs', e1, e2, B'⟩ := s0 h; exact ⟨f1, f2, b', cs', e1, e2, B'.touch t (fun q => d02 f1 fa (by rw [e1, ea, q]))⟩), (fun h => by obtain ⟨f1, f2, b', cs', e1, e2, B'⟩ := s1 h; exact ⟨f1, f2, b', cs', e1, e2, B'.touch t (fun q => d12 f1 fa (by rw [e1, ea, q]))⟩), (fun _ => ⟨fa, fe, b, _, ea, ee, B⟩)⟩, trivial⟩
            · obtain ⟨fa, b, ea, la, ta⟩ := hr ⟨12, .data⟩ (by simp) rfl
              obtain ⟨fe, -⟩ := hr ⟨9, .data⟩ (by simp) rfl
              obtain ⟨-, g3, cp3, gg3, cpp3, e7, -⟩ := hr ⟨7, .phase⟩ (by simp) rfl
              have ee := (x1 fe).2 _ _ _ e7
              refine does_storeT cn_big (cn_size _) ta (by decide) (cn_one _) _ _ rfl ea ee ?_
              intro z hk t B
              exact ⟨hk, ⟨since_touch k0 t la, x0, x1, x2, (fun h => by obtain ⟨b, e, l⟩ := b0 h; exact ⟨b, e, Nat.lt_of_lt_of_le l t.size⟩), (fun h => by obtain ⟨b, e, l⟩ := b1 h; exact ⟨b, e, Nat.lt_of_lt_of_le l t.size⟩), (fun h => by obtain ⟨b, e, l⟩ := b2 h; exact ⟨b, e, Nat.lt_of_lt_of_le l t.size⟩), d01, d02, d12, (fun h => by obtain ⟨f1, f2, b', cs', e1, e2, B'⟩ := s0 h; exact ⟨f1, f2, b', cs', e1, e2, B'.touch t (fun q => d01 f1 fa (by rw [e1, ea, q]))⟩), (fun _ => ⟨fa, fe, b, _, ea, ee, B⟩), (fun h => by obtain ⟨f1, f2, b', cs', e1, e2, B'⟩ := s2 h; exact ⟨f1, f2, b', cs', e1, e2, B'.touch t (fun q => d12 fa f1 (by rw [e1, ea, q]))⟩)⟩, trivial⟩
            · obtain ⟨fa, b, ea, la, ta⟩ := hr ⟨11, .data⟩ (by simp) rfl
              obtain ⟨fe, -⟩ := hr ⟨8, .data⟩ (by simp) rfl
              obtain ⟨-, g3, cp3, gg3, cpp3, e7, -⟩ := hr ⟨7, .phase⟩ (by simp) rfl
              have ee := (x0 fe).2 _ _ _ e7
              refine does_storeT pp_big rfl ta (by decide) (by simp [Value.oneCell']) _ _ rfl ea ee ?_
              intro z hk t B
              exact ⟨hk, ⟨since_touch k0 t la, x0, x1, x2, (fun h => by obtain ⟨b, e, l⟩ := b0 h; exact ⟨b, e, Nat.lt_of_lt_of_le l t.size⟩), (fun h => by obtain ⟨b, e, l⟩ := b1 h; exact ⟨b, e, Nat.lt_of_lt_of_le l t.size⟩), (fun h => by obtain ⟨b, e, l⟩ := b2 h; exact ⟨b, e, Nat.lt_of_lt_of_le l t.size⟩), d01, d02, d12, (fun _ => ⟨fa, fe, b, _, ea, ee, B⟩), (fun h => by obtain ⟨f1, f2, b', cs', e1, e2, B'⟩ := s1 h; exact ⟨f1, f2, b', cs', e1, e2, B'.touch t (fun q => d01 fa f1 (by rw [e1, ea, q]))⟩), (fun h => by obtain ⟨f1, f2, b', cs', e1, e2, B'⟩ := s2 h; exact ⟨f1, f2, b', cs', e1, e2, B'.touch t (fun q => d02 fa f1 (by rw [e1, ea, q]))⟩)⟩, trivial⟩
            · have h1 := (Since.refl x).alloc (.cells (cnCells cnZero) 46)
              refine does_w (.pointer (some ⟨x.heap.size, 0, none⟩)) (x.alloc (.cells (cnCells cnZero) 46)) (by kernel_rfl) ?_
              exact ⟨KeepsT.of_since h1, ⟨k0.trans h1, x0, x1, x2, (fun h => by obtain ⟨b, e, l⟩ := b0 h; exact ⟨b, e, Nat.lt_of_lt_of_le l h1.size⟩), (fun h => by obtain ⟨b, e, l⟩ := b1 h; exact ⟨b, e, Nat.lt_of_lt_of_le l h1.size⟩), (fun _ => ⟨_, rfl, by rw [World.size_alloc] <;> omega⟩), d01, (fun h _ q => by obtain ⟨b, e, l⟩ := b0 h; have q2 : vals 11 = Value.pointer (some ⟨x.heap.size, 0, none⟩) := q; rw [e] at q2; simp at q2 <;> omega), (fun h _ q => by obtain ⟨b, e, l⟩ := b1 h; have q2 : vals 12 = Value.pointer (some ⟨x.heap.size, 0, none⟩) := q; rw [e] at q2; simp at q2 <;> omega), (fun h => by obtain ⟨f1, f2, b, cs, e1, e2, B⟩ := s0 h; exact ⟨f1, f2, b, cs, e1, e2, B.since h1⟩), (fun h => by obtain ⟨f1, f2, b, cs, e1, e2, B⟩ := s1 h; exact ⟨f1, f2, b, cs, e1, e2, B.since h1⟩), (fun h => absurd ((s2 h).1) (by rw [hf]; decide))⟩, _, rfl, k0.size, Typed.new _ _ _ (cn_size _)⟩
            · have h1 := (Since.refl x).alloc (.cells (cnCells cnZero) 46)
              refine does_w (.pointer (some ⟨x.heap.size, 0, none⟩)) (x.alloc (.cells (cnCells cnZero) 46)) (by kernel_rfl) ?_
              exact ⟨KeepsT.of_since h1, ⟨k0.trans h1, x0, x1, x2, (fun h => by obtain ⟨b, e, l⟩ := b0 h; exact ⟨b, e, Nat.lt_of_lt_of_le l h1.size⟩), (fun _ => ⟨_, rfl, by rw [World.size_alloc] <;> omega⟩), (fun h => by obtain ⟨b, e, l⟩ := b2 h; exact ⟨b, e, Nat.lt_of_lt_of_le l h1.size⟩), (fun h _ q => by obtain ⟨b, e, l⟩ := b0 h; have q2 : vals 11 = Value.pointer (some ⟨x.heap.size, 0, none⟩) := q; rw [e] at q2; simp at q2 <;> omega), d02, (fun _ h q => by obtain ⟨b, e, l⟩ := b2 h; have q2 : Value.pointer (some ⟨x.heap.size, 0, none⟩) = vals 13 := q; rw [e] at q2; simp at q2 <;> omega), (fun h => by obtain ⟨f1, f2, b, cs, e1, e2, B⟩ := s0 h; exact ⟨f1, f2, b, cs, e1, e2, B.since h1⟩), (fun h => absurd ((s1 h).1) (by rw [hf]; decide)), (fun h => by obtain ⟨f1, f2, b, cs, e1, e2, B⟩ := s2 h; exact ⟨f1, f2, b, cs, e1, e2, B.since h1⟩)⟩, _, rfl, k0.size, Typed.new _ _ _ (cn_size _)⟩
            · have h1 := (Since.refl x).alloc (.cells #[.int .i64 0, .string ByteArray.empty, .bool false, .int .i64 0] 38)
              refine does_w (.pointer (some ⟨x.heap.size, 0, none⟩)) (x.alloc (.cells #[.int .i64 0, .string ByteArray.empty, .bool false, .int .i64 0] 38)) (by kernel_rfl) ?_
              exact ⟨KeepsT.of_since h1, ⟨k0.trans h1, x0, x1, x2, (fun _ => ⟨_, rfl, by rw [World.size_alloc] <;> omega⟩), (fun h => by obtain ⟨b, e, l⟩ := b1 h; exact ⟨b, e, Nat.lt_of_lt_of_le l h1.size⟩), (fun h => by obtain ⟨b, e, l⟩ := b2 h; exact ⟨b, e, Nat.lt_of_lt_of_le l h1.size⟩), (fun _ h q => by obtain ⟨b, e, l⟩ := b1 h; have q2 : Value.pointer (some ⟨x.heap.size, 0, none⟩) = vals 12 := q; rw [e] at q2; simp at q2 <;> omega), (fun _ h q => by obtain ⟨b, e, l⟩ := b2 h; have q2 : Value.pointer (some ⟨x.heap.size, 0, none⟩) = vals 13 := q; rw [e] at q2; simp at q2 <;> omega), d12, (fun h => absurd ((s0 h).1) (by rw [hf]; decide)), (fun h => by obtain ⟨f1, f2, b, cs, e1, e2, B⟩ := s1 h; exact ⟨f1, f2, b, cs, e1, e2, B.since h1⟩), (fun h => by obtain ⟨f1, f2, b, cs, e1, e2, B⟩ := s2 h; exact ⟨f1, f2, b, cs, e1, e2, B.since h1⟩)⟩, _, rfl, k0.size, Typed.new _ _ _ rfl⟩
            · obtain ⟨f7, g3, cp3, gg3, cpp3, e7, -⟩ := hr ⟨7, .data⟩ (by simp) rfl
              replace e7 : vals 7 = .tuple #[.agg #[.int .i64 rm0, .string xD, .bool xE, .int .i64 xN], .agg (cnCells { DF with pa := some ⟨g3, 0, none⟩, pc := cp3 }), .agg (cnCells { DT with pa := some ⟨gg3, 0, none⟩, pc := cpp3 })] := e7
              refine does_v (.agg (cnCells { DT with pa := some ⟨gg3, 0, none⟩, pc := cpp3 })) ?_ ?_
              · simp [execOp, go_sem, e7]
              exact ⟨KeepsT.of_since (Since.refl _), ⟨k0, x0, x1, (fun _ => ⟨f7, fun a0 a1 a2 h => by replace h : vals 7 = .tuple #[a0, a1, a2] := h; rw [e7] at h; exact Option.some.inj (congrArg (fun q : Array Value => q[2]?) (Value.tuple.inj h))⟩), b0, b1, b2, d01, d02, d12, s0, s1, (fun h => absurd ((s2 h).2.1) (by rw [hf]; decide))⟩, trivial⟩
            · obtain ⟨f7, g3, cp3, gg3, cpp3, e7, -⟩ := hr ⟨7, .data⟩ (by simp) rfl
              replace e7 : vals 7 = .tuple #[.agg #[.int .i64 rm0, .string xD, .bool xE, .int .i64 xN], .agg (cnCells { DF with pa := some ⟨g3, 0, none⟩, pc := cp3 }), .agg (cnCells { DT with pa := some ⟨gg3, 0, none⟩, pc := cpp3 })] := e7
              refine does_v (.agg (cnCells { DF with pa := some ⟨g3, 0, none⟩, pc := cp3 })) ?_ ?_
              · simp [execOp, go_sem, e7]
              exact ⟨KeepsT.of_since (Since.refl _), ⟨k0, x0, (fun _ => ⟨f7, fun a0 a1 a2 h => by replace h : vals 7 = .tuple #[a0, a1, a2] := h; rw [e7] at h; exact Option.some.inj (congrArg (fun q : Array Value => q[1]?) (Value.tuple.inj h))⟩), x2, b0, b1, b2, d01, d02, d12, s0, (fun h => absurd ((s1 h).2.1) (by rw [hf]; decide)), s2⟩, trivial⟩
            · obtain ⟨f7, g3, cp3, gg3, cpp3, e7, -⟩ := hr ⟨7, .data⟩ (by simp) rfl
              replace e7 : vals 7 = .tuple #[.agg #[.int .i64 rm0, .string xD, .bool xE, .int .i64 xN], .agg (cnCells { DF with pa := some ⟨g3, 0, none⟩, pc := cp3 }), .agg (cnCells { DT with pa := some ⟨gg3, 0, none⟩, pc := cpp3 })] := e7
              refine does_v (.agg #[.int .i64 rm0, .string xD, .bool xE, .int .i64 xN]) ?_ ?_
              · simp [execOp, go_sem, e7]
              exact ⟨KeepsT.of_since (Since.refl _), ⟨k0, (fun _ => ⟨f7, fun a0 a1 a2 h => by replace h : vals 7 = .tuple #[a0, a1, a2] := h; rw [e7] at h; exact Option.some.inj (congrArg (fun q : Array Value => q[0]?) (Value.tuple.inj h))⟩), x1, x2, b0, b1, b2, d01, d02, d12, (fun h => absurd ((s0 h).2.1) (by rw [hf]; decide)), s1, s2⟩, trivial⟩
            · obtain ⟨f6, g3, cp3, gg3, cpp3, e6, h6⟩ := hr ⟨6, .data⟩ (by simp) rfl
              refine does_v (.tuple #[.agg #[.int .i64 rm0, .string xD, .bool xE, .int .i64 xN], .agg (cnCells { DF with pa := some ⟨g3, 0, none⟩, pc := cp3 }), .agg (cnCells { DT with pa := some ⟨gg3, 0, none⟩, pc := cpp3 })]) ?_ ?_
              · simp [execOp, go_sem, e6]
              exact ⟨KeepsT.of_since (Since.refl _), ⟨k0, (fun h => absurd ((x0 h).1) (by rw [hf]; decide)), (fun h => absurd ((x1 h).1) (by rw [hf]; decide)), (fun h => absurd ((x2 h).1) (by rw [hf]; decide)), b0, b1, b2, d01, d02, d12, s0, s1, s2⟩, g3, cp3, gg3, cpp3, rfl, h6⟩
            · have e1 : vals 1 = .agg #[.int .i64 rm0, .string d0, .bool e0, .int .i64 n0] := (hr ⟨1, .data⟩ (by simp) rfl).2
              obtain ⟨-, q, e3, H3⟩ := hr ⟨3, .data⟩ (by simp) rfl
              obtain ⟨-, q2, e5, H5⟩ := hr ⟨5, .data⟩ (by simp) rfl
              refine does_c #[vals 1, vals 3, vals 5] (hi q q2 _ H3.reads H5.reads) (by rw [e1, e3, e5]) ?_
              rintro _ x' ⟨g3, cp3, gg3, cpp3, rfl, H3, K3, hne3, h1⟩
              exact ⟨_, rfl, KeepsT.of_since h1, ⟨k0.trans h1, x0, x1, x2, (fun h => by obtain ⟨b, e, l⟩ := b0 h; exact ⟨b, e, Nat.lt_of_lt_of_le l h1.size⟩), (fun h => by obtain ⟨b, e, l⟩ := b1 h; exact ⟨b, e, Nat.lt_of_lt_of_le l h1.size⟩), (fun h => by obtain ⟨b, e, l⟩ := b2 h; exact ⟨b, e, Nat.lt_of_lt_of_le l h1.size⟩), d01, d02, d12, (fun h => by obtain ⟨f1, f2, b, cs, e1, e2, B⟩ := s0 h; exact ⟨f1, f2, b, cs, e1, e2, B.since h1⟩), (fun h => by obtain ⟨f1, f2, b, cs, e1, e2, B⟩ := s1 h; exact ⟨f1, f2, b, cs, e1, e2, B.since h1⟩), (fun h => by obtain ⟨f1, f2, b, cs, e1, e2, B⟩ := s2 h; exact ⟨f1, f2, b, cs, e1, e2, B.since h1⟩)⟩, g3, cp3, gg3, cpp3, rfl, H3.raise (by have := H3.low'; have := k0.size; omega), K3.raise (by have := K3.low'; have := k0.size; omega), hne3⟩
            · have e4 : vals 4 = .agg (cnCells c2) := (hr ⟨4, .data⟩ (by simp) rfl).2
              refine does_c #[vals 4] (hT2 _ (R2.since (G.trans k0))) (by rw [e4]) ?_
              rintro _ x' ⟨q, rfl, H, h1⟩
              exact ⟨_, rfl, KeepsT.of_since h1, ⟨k0.trans h1, x0, x1, x2, (fun h => by obtain ⟨b, e, l⟩ := b0 h; exact ⟨b, e, Nat.lt_of_lt_of_le l h1.size⟩), (fun h => by obtain ⟨b, e, l⟩ := b1 h; exact ⟨b, e, Nat.lt_of_lt_of_le l h1.size⟩), (fun h => by obtain ⟨b, e, l⟩ := b2 h; exact ⟨b, e, Nat.lt_of_lt_of_le l h1.size⟩), d01, d02, d12, (fun h => by obtain ⟨f1, f2, b, cs, e1, e2, B⟩ := s0 h; exact ⟨f1, f2, b, cs, e1, e2, B.since h1⟩), (fun h => by obtain ⟨f1, f2, b, cs, e1, e2, B⟩ := s1 h; exact ⟨f1, f2, b, cs, e1, e2, B.since h1⟩), (fun h => by obtain ⟨f1, f2, b, cs, e1, e2, B⟩ := s2 h; exact ⟨f1, f2, b, cs, e1, e2, B.since h1⟩)⟩, q, rfl, H.raise (by have := H.low'; have := k0.size; omega)⟩
            · exact does_load lcn_big (cn_size _) (qB8.since k0) _ rfl rfl ⟨KeepsT.of_since (Since.refl _), ⟨k0, x0, x1, x2, b0, b1, b2, d01, d02, d12, s0, s1, s2⟩, rfl⟩
            · have e2 : vals 2 = .agg (cnCells c1) := (hr ⟨2, .data⟩ (by simp) rfl).2
              refine does_c #[vals 2] (hT1 _ (R1.since (G.trans k0))) (by rw [e2]) ?_
              rintro _ x' ⟨q, rfl, H, h1⟩
              exact ⟨_, rfl, KeepsT.of_since h1, ⟨k0.trans h1, x0, x1, x2, (fun h => by obtain ⟨b, e, l⟩ := b0 h; exact ⟨b, e, Nat.lt_of_lt_of_le l h1.size⟩), (fun h => by obtain ⟨b, e, l⟩ := b1 h; exact ⟨b, e, Nat.lt_of_lt_of_le l h1.size⟩), (fun h => by obtain ⟨b, e, l⟩ := b2 h; exact ⟨b, e, Nat.lt_of_lt_of_le l h1.size⟩), d01, d02, d12, (fun h => by obtain ⟨f1, f2, b, cs, e1, e2, B⟩ := s0 h; exact ⟨f1, f2, b, cs, e1, e2, B.since h1⟩), (fun h => by obtain ⟨f1, f2, b, cs, e1, e2, B⟩ := s1 h; exact ⟨f1, f2, b, cs, e1, e2, B.since h1⟩), (fun h => by obtain ⟨f1, f2, b, cs, e1, e2, B⟩ := s2 h; exact ⟨f1, f2, b, cs, e1, e2, B.since h1⟩)⟩, q, rfl, H.raise (by have := H.low'; have := k0.size; omega)⟩
            · exact does_load lcn_big (cn_size _) (qB5.since k0) _ rfl rfl ⟨KeepsT.of_since (Since.refl _), ⟨k0, x0, x1, x2, b0, b1, b2, d01, d02, d12, s0, s1, s2⟩, rfl⟩
            · have e0 : vals 0 = .agg #[.int .i64 rm0, .string d0, .bool e0, .int .i64 n0] := (hr ⟨0, .data⟩ (by simp) rfl).2
              refine does_c #[vals 0] (hto _) (by rw [e0]) ?_
              rintro _ x' ⟨rfl, h1⟩
              exact ⟨_, rfl, KeepsT.of_since h1, ⟨k0.trans h1, x0, x1, x2, (fun h => by obtain ⟨b, e, l⟩ := b0 h; exact ⟨b, e, Nat.lt_of_lt_of_le l h1.size⟩), (fun h => by obtain ⟨b, e, l⟩ := b1 h; exact ⟨b, e, Nat.lt_of_lt_of_le l h1.size⟩), (fun h => by obtain ⟨b, e, l⟩ := b2 h; exact ⟨b, e, Nat.lt_of_lt_of_le l h1.size⟩), d01, d02, d12, (fun h => by obtain ⟨f1, f2, b, cs, e1, e2, B⟩ := s0 h; exact ⟨f1, f2, b, cs, e1, e2, B.since h1⟩), (fun h => by obtain ⟨f1, f2, b, cs, e1, e2, B⟩ := s1 h; exact ⟨f1, f2, b, cs, e1, e2, B.since h1⟩), (fun h => by obtain ⟨f1, f2, b, cs, e1, e2, B⟩ := s2 h; exact ⟨f1, f2, b, cs, e1, e2, B.since h1⟩)⟩, rfl⟩
            · exact does_load lpp_big rfl (qB2.since k0) _ rfl rfl ⟨KeepsT.of_since (Since.refl _), ⟨k0, x0, x1, x2, b0, b1, b2, d01, d02, d12, s0, s1, s2⟩, rfl⟩
          case refine_4 =>
            intro f qv81 qw80 hK hf hv
            obtain ⟨k0, x0, x1, x2, b0, b1, b2, d01, d02, d12, s0, s1, s2⟩ := hK
            have hv0 : qv81 0 = _ := hv 0 (by decide)
            have hv1 : qv81 1 = _ := hv 1 (by decide)
            have hv2 : qv81 2 = _ := hv 2 (by decide)
            obtain ⟨qf3r38, hv3, -⟩ := hv 3 (by decide)
            have hv4 : qv81 4 = _ := hv 4 (by decide)
            obtain ⟨qf5r38, hv5, -⟩ := hv 5 (by decide)
            obtain ⟨g3c, cp3c, gg3c, cpp3c, hv6, -⟩ := hv 6 (by decide)
            obtain ⟨g3, cp3, gg3, cpp3, hv7, H3, K3, hne3⟩ := hv 7 (by decide)
            have hv8 := (x0 (hf 8 (by decide))).2 _ _ _ hv7
            have hv9 := (x1 (hf 9 (by decide))).2 _ _ _ hv7
            have hv10 := (x2 (hf 10 (by decide))).2 _ _ _ hv7
            obtain ⟨-, -, qx82, cs0, hv11, ec, qB85⟩ := s0 (hf 14 (by decide))
            rw [hv8] at ec
            obtain rfl := Value.agg.inj ec
            clear ec
            obtain ⟨bb, eb, lb, tb⟩ := hv 11 (by decide)
            rw [hv11] at eb
            obtain rfl : qx82 = bb := by simpa using eb
            have H3_qx82 := typed_ne H3 tb (by decide)
            have K3_qx82 := typed_ne K3 tb (by decide)
            have qx82_b := lb
            clear eb lb tb
            have qB85_l := qB85.lt
            obtain ⟨-, -, qx83, cs1, hv12, ec, qB86⟩ := s1 (hf 15 (by decide))
            rw [hv9] at ec
            obtain rfl := Value.agg.inj ec
            clear ec
            obtain ⟨bb, eb, lb, tb⟩ := hv 12 (by decide)
            rw [hv12] at eb
            obtain rfl : qx83 = bb := by simpa using eb
            have H3_qx83 := typed_ne H3 tb (by decide)
            have K3_qx83 := typed_ne K3 tb (by decide)
            have qx83_b := lb
            clear eb lb tb
            have qB86_l := qB86.lt
            obtain ⟨-, -, qx84, cs2, hv13, ec, qB87⟩ := s2 (hf 16 (by decide))
            rw [hv10] at ec
            obtain rfl := Value.agg.inj ec
            clear ec
            obtain ⟨bb, eb, lb, tb⟩ := hv 13 (by decide)
            rw [hv13] at eb
            obtain rfl : qx84 = bb := by simpa using eb
            have H3_qx84 := typed_ne H3 tb (by decide)
            have K3_qx84 := typed_ne K3 tb (by decide)
            have qx84_b := lb
            clear eb lb tb
            have qB87_l := qB87.lt
            have qx82_qx83 : qx82 ≠ qx83 := fun q => d01 (hf 11 (by decide)) (hf 12 (by decide)) (by rw [hv11, hv12, q])
            have qx82_qx84 : qx82 ≠ qx84 := fun q => d02 (hf 11 (by decide)) (hf 13 (by decide)) (by rw [hv11, hv13, q])
            have qx83_qx84 : qx83 ≠ qx84 := fun q => d12 (hf 12 (by decide)) (hf 13 (by decide)) (by rw [hv12, hv13, q])
            clear hv x0 x1 x2 b0 b1 b2 d01 d02 d12 s0 s1 s2
            simp only [hv0, hv1, hv2, hv3, hv4, hv5, hv6, hv7, hv8, hv9, hv10, hv11, hv12, hv13]
            clear hv0 hv1 hv2 hv3 hv4 hv5 hv6 hv7 hv8 hv9 hv10 hv11 hv12 hv13
            replace qB2 := qB2.since k0
            replace qB5 := qB5.since k0
            replace qB8 := qB8.since k0
            replace qB21 := qB21.since k0
            replace qB22 := qB22.since k0
            replace qB23 := qB23.since k0
            replace qB31 := qB31.since k0
            replace qB39 := qB39.since k0
            replace qB45 := qB45.since k0
            replace qB46 := qB46.since k0
            replace qB47 := qB47.since k0
            replace H1 := H1.since k0
            replace K1 := K1.since k0
            replace X1 := X1.since k0
            replace X2 := X2.since k0
            replace H2 := H2.since k0
            replace K2 := K2.since k0
            replace G := G.trans k0
            have qw80_s := k0.size
            clear k0
            have H3_0 := H3.low'
            replace H3 := H3.raise (show w.heap.size ≤ g3 by omega)
            have H3_1 := H3.lt
            have H3_p : Held shP qw80 w.heap.size g3 DF.pn cp3 p1 := by rw [hDF.out]; exact H3
            clear H3
            have H3 := H3_p
            clear H3_p
            have K3_0 := K3.low'
            replace K3 := K3.raise (show w.heap.size ≤ gg3 by omega)
            have K3_1 := K3.lt
            have K3_p : Held shP qw80 w.heap.size gg3 DT.pn cpp3 p2 := by rw [hDT.out]; exact K3
            clear K3
            have K3 := K3_p
            clear K3_p
            go_upto_region 39 with (fail)
            refine vR ?_
            refine vB pp_big qB85 rfl ?_
            refine vB pp_big qB21 rfl ?_
            refine vK (he _) ?_
            intro qw88 qg89
            replace qB2 := qB2.since qg89
            replace qB5 := qB5.since qg89
            replace qB8 := qB8.since qg89
            replace qB21 := qB21.since qg89
            replace qB22 := qB22.since qg89
            replace qB23 := qB23.since qg89
            replace qB31 := qB31.since qg89
            replace qB39 := qB39.since qg89
            replace qB45 := qB45.since qg89
            replace qB46 := qB46.since qg89
            replace qB47 := qB47.since qg89
            replace qB85 := qB85.since qg89
            replace qB86 := qB86.since qg89
            replace qB87 := qB87.since qg89
            replace H1 := H1.since qg89
            replace K1 := K1.since qg89
            replace X1 := X1.since qg89
            replace X2 := X2.since qg89
            replace H2 := H2.since qg89
            replace K2 := K2.since qg89
            replace H3 := H3.since qg89
            replace K3 := K3.since qg89
            replace G := G.trans qg89
            have qg89_s := qg89.size
            refine vV (.bool false) ?_
            refine vV (.bool false) ?_
            refine vB cn_big qB86 (cn_size _) ?_
            refine vB cn_big qB22 (cn_size _) ?_
            refine vK (kF _ _ _ _ _ _ _ H3 H1) ?_
            intro qw90 qg91
            replace qB2 := qB2.since qg91
            replace qB5 := qB5.since qg91
            replace qB8 := qB8.since qg91
            replace qB21 := qB21.since qg91
            replace qB22 := qB22.since qg91
            replace qB23 := qB23.since qg91
            replace qB31 := qB31.since qg91
            replace qB39 := qB39.since qg91
            replace qB45 := qB45.since qg91
            replace qB46 := qB46.since qg91
            replace qB47 := qB47.since qg91
            replace qB85 := qB85.since qg91
            replace qB86 := qB86.since qg91
            replace qB87 := qB87.since qg91
            replace H1 := H1.since qg91
            replace K1 := K1.since qg91
            replace X1 := X1.since qg91
            replace X2 := X2.since qg91
            replace H2 := H2.since qg91
            replace K2 := K2.since qg91
            replace H3 := H3.since qg91
            replace K3 := K3.since qg91
            replace G := G.trans qg91
            have qg91_s := qg91.size
            refine vV (.bool false) ?_
            refine vV (.bool false) ?_
            refine vV (.bool false) ?_
            refine vB cn_big qB87 (cn_size _) ?_
            refine vB cn_big qB23 (cn_size _) ?_
            refine vK (kT _ _ _ _ _ _ _ K3 K1) ?_
            intro qw92 qg93
            replace qB2 := qB2.since qg93
            replace qB5 := qB5.since qg93
            replace qB8 := qB8.since qg93
            replace qB21 := qB21.since qg93
            replace qB22 := qB22.since qg93
            replace qB23 := qB23.since qg93
            replace qB31 := qB31.since qg93
            replace qB39 := qB39.since qg93
            replace qB45 := qB45.since qg93
            replace qB46 := qB46.since qg93
            replace qB47 := qB47.since qg93
            replace qB85 := qB85.since qg93
            replace qB86 := qB86.since qg93
            replace qB87 := qB87.since qg93
            replace H1 := H1.since qg93
            replace K1 := K1.since qg93
            replace X1 := X1.since qg93
            replace X2 := X2.since qg93
            replace H2 := H2.since qg93
            replace K2 := K2.since qg93
            replace H3 := H3.since qg93
            replace K3 := K3.since qg93
            replace G := G.trans qg93
            have qg93_s := qg93.size
            refine vV (.bool false) ?_
            refine vV (.bool false) ?_
            refine vE #[.agg #[.int .i64 rm0, .string d0, .bool e0, .int .i64 n0], .agg (cnCells c1), .agg (cnCells c2), .pointer (some ⟨w.heap.size, 0, none⟩), .pointer (some ⟨qw1.heap.size, 0, none⟩), .pointer (some ⟨qw4.heap.size, 0, none⟩), .bool false, .int .i64 r2, .pointer (some ⟨qx18, 0, none⟩), .pointer (some ⟨qx19, 0, none⟩), .pointer (some ⟨qx20, 0, none⟩), .pointer (some ⟨qw24.heap.size, 0, none⟩), .pointer (some ⟨qw32.heap.size, 0, none⟩), .pointer (some ⟨qx42, 0, none⟩), .pointer (some ⟨qx43, 0, none⟩), .pointer (some ⟨qx44, 0, none⟩), .int .i64 ((1 + 2 * c1.pn) + 2 * c2.pn), .int .i64 ((1 + 2 * DF.pn) + 2 * DT.pn), .int .i64 ((1 + 2 * DF.pn) + 2 * DT.pn), .pointer (some ⟨qx82, 0, none⟩), .pointer (some ⟨qx83, 0, none⟩), .pointer (some ⟨qx84, 0, none⟩), .agg #[.int .i64 rm0, .string d0, .bool e0, .int .i64 n0], .int .i64 1048576, .int .i64 l0, .int .i64 l0, .bool (decide (l0 < 0)), .agg (cnCells c1), .int .i64 l0, .int .i64 r1, .int .i64 r1, .bool (decide (r1 < 0)), .agg (cnCells c2), .int .i64 r1, .int .i64 r2, .int .i64 r2, .bool (decide (r2 < 0)), .tuple #[.agg #[.int .i64 rm0, .string xD, .bool xE, .int .i64 xN], .agg (cnCells { DF with pa := some ⟨g1, 0, none⟩, pc := cp1 }), .agg (cnCells { DT with pa := some ⟨gg1, 0, none⟩, pc := cpp1 })], .agg #[.int .i64 rm0, .string d0, .bool e0, .int .i64 n0], .agg #[.int .i64 rm0, .string d0, .bool e0, .int .i64 n0], .agg (cnCells c1), .agg (cnCells { c1 with pa := some ⟨qf3r11, 0, none⟩, pc := c1.pn }), .agg (cnCells c2), .agg (cnCells { c2 with pa := some ⟨qf5r11, 0, none⟩, pc := c2.pn }), .tuple #[.agg #[.int .i64 rm0, .string xD, .bool xE, .int .i64 xN], .agg (cnCells { DF with pa := some ⟨g1c, 0, none⟩, pc := cp1c }), .agg (cnCells { DT with pa := some ⟨gg1c, 0, none⟩, pc := cpp1c })], .agg #[.int .i64 rm0, .string xD, .bool xE, .int .i64 xN], .agg (cnCells { DF with pa := some ⟨g1, 0, none⟩, pc := cp1 }), .agg (cnCells { DT with pa := some ⟨gg1, 0, none⟩, pc := cpp1 }), .agg (cnCells c1), .agg (cnCells { c1 with pa := some ⟨y1, 0, none⟩, pc := c1.pn }), .agg (cnCells c2), .agg (cnCells { c2 with pa := some ⟨y2, 0, none⟩, pc := c2.pn }), .tuple #[.agg #[.int .i64 rm0, .string xD, .bool xE, .int .i64 xN], .agg (cnCells { DF with pa := some ⟨g2, 0, none⟩, pc := cp2 }), .agg (cnCells { DT with pa := some ⟨gg2, 0, none⟩, pc := cpp2 })], .agg #[.int .i64 rm0, .string d0, .bool e0, .int .i64 n0], .agg #[.int .i64 rm0, .string d0, .bool e0, .int .i64 n0], .agg (cnCells { c1 with pa := some ⟨y1, 0, none⟩, pc := c1.pn }), .agg (cnCells { c2 with pa := some ⟨y2, 0, none⟩, pc := c2.pn }), .tuple #[.agg #[.int .i64 rm0, .string xD, .bool xE, .int .i64 xN], .agg (cnCells { DF with pa := some ⟨g2c, 0, none⟩, pc := cp2c }), .agg (cnCells { DT with pa := some ⟨gg2c, 0, none⟩, pc := cpp2c })], .agg #[.int .i64 rm0, .string xD, .bool xE, .int .i64 xN], .agg (cnCells { DF with pa := some ⟨g2, 0, none⟩, pc := cp2 }), .agg (cnCells { DT with pa := some ⟨gg2, 0, none⟩, pc := cpp2 }), .agg #[.int .i64 rm0, .string xD, .bool xE, .int .i64 xN], .agg #[.int .i64 rm0, .string xD, .bool xE, .int .i64 xN], .bool true, .bool false, .bool false, .agg (cnCells { DF with pa := some ⟨g2, 0, none⟩, pc := cp2 }), .agg (cnCells { DF with pa := some ⟨g1, 0, none⟩, pc := cp1 }), .bool true, .bool false, .bool false, .bool false, .agg (cnCells { DT with pa := some ⟨gg2, 0, none⟩, pc := cpp2 }), .agg (cnCells { DT with pa := some ⟨gg1, 0, none⟩, pc := cpp1 }), .bool true, .bool false, .bool false, .agg (cnCells { c1 with pa := some ⟨y1, 0, none⟩, pc := c1.pn }), .agg (cnCells c1), .agg (cnCells { c1 with pa := some ⟨qz57, 0, none⟩, pc := c1.pn }), .bool true, .bool false, .agg (cnCells { c2 with pa := some ⟨y2, 0, none⟩, pc := c2.pn }), .agg (cnCells c2), .agg (cnCells { c2 with pa := some ⟨qz61, 0, none⟩, pc := c2.pn }), .bool true, .bool false, .agg (cnCells { c1 with pa := some ⟨y1, 0, none⟩, pc := c1.pn }), .int .i64 1, .int .i64 (1 + 2 * c1.pn), .agg (cnCells { c2 with pa := some ⟨y2, 0, none⟩, pc := c2.pn }), .int .i64 (1 + 2 * c1.pn), .int .i64 ((1 + 2 * c1.pn) + 2 * c2.pn), .int .i64 ((1 + 2 * c1.pn) + 2 * c2.pn), .bool false, .bool false, .agg #[.int .i64 rm0, .string xD, .bool xE, .int .i64 xN], .agg #[.int .i64 rm0, .string xD, .bool xE, .int .i64 xN], .bool true, .bool false, .bool false, .bool false, .agg (cnCells { DF with pa := some ⟨g2, 0, none⟩, pc := cp2 }), .agg (cnCells { DF with pa := some ⟨g1, 0, none⟩, pc := cp1 }), .bool true, .bool false, .bool false, .bool false, .agg (cnCells { DT with pa := some ⟨gg2, 0, none⟩, pc := cpp2 }), .agg (cnCells { DT with pa := some ⟨gg1, 0, none⟩, pc := cpp1 }), .bool true, .bool false, .bool false, .agg (cnCells { DF with pa := some ⟨g2, 0, none⟩, pc := cp2 }), .int .i64 1, .int .i64 (1 + 2 * DF.pn), .agg (cnCells { DT with pa := some ⟨gg2, 0, none⟩, pc := cpp2 }), .int .i64 (1 + 2 * DF.pn), .int .i64 ((1 + 2 * DF.pn) + 2 * DT.pn), .agg (cnCells { DF with pa := some ⟨g2, 0, none⟩, pc := cp2 }), .int .i64 1, .int .i64 (1 + 2 * DF.pn), .int .i64 (1 + 2 * DF.pn), .bool (decide ((1 + 2 * DF.pn) < 0)), .agg (cnCells { DT with pa := some ⟨gg2, 0, none⟩, pc := cpp2 }), .int .i64 (1 + 2 * DF.pn), .int .i64 ((1 + 2 * DF.pn) + 2 * DT.pn), .int .i64 ((1 + 2 * DF.pn) + 2 * DT.pn), .bool (decide (((1 + 2 * DF.pn) + 2 * DT.pn) < 0)), .int .i64 ((1 + 2 * DF.pn) + 2 * DT.pn), .int .i64 ((1 + 2 * DF.pn) + 2 * DT.pn), .bool false, .tuple #[.agg #[.int .i64 rm0, .string xD, .bool xE, .int .i64 xN], .agg (cnCells { DF with pa := some ⟨g3, 0, none⟩, pc := cp3 }), .agg (cnCells { DT with pa := some ⟨gg3, 0, none⟩, pc := cpp3 })], .agg #[.int .i64 rm0, .string d0, .bool e0, .int .i64 n0], .agg #[.int .i64 rm0, .string d0, .bool e0, .int .i64 n0], .agg (cnCells c1), .agg (cnCells { c1 with pa := some ⟨qf3r38, 0, none⟩, pc := c1.pn }), .agg (cnCells c2), .agg (cnCells { c2 with pa := some ⟨qf5r38, 0, none⟩, pc := c2.pn }), .tuple #[.agg #[.int .i64 rm0, .string xD, .bool xE, .int .i64 xN], .agg (cnCells { DF with pa := some ⟨g3c, 0, none⟩, pc := cp3c }), .agg (cnCells { DT with pa := some ⟨gg3c, 0, none⟩, pc := cpp3c })], .agg #[.int .i64 rm0, .string xD, .bool xE, .int .i64 xN], .agg (cnCells { DF with pa := some ⟨g3, 0, none⟩, pc := cp3 }), .agg (cnCells { DT with pa := some ⟨gg3, 0, none⟩, pc := cpp3 }), .agg #[.int .i64 rm0, .string xD, .bool xE, .int .i64 xN], .agg #[.int .i64 rm0, .string xD, .bool xE, .int .i64 xN], .bool true, .bool false, .bool false, .agg (cnCells { DF with pa := some ⟨g3, 0, none⟩, pc := cp3 }), .agg (cnCells { DF with pa := some ⟨g1, 0, none⟩, pc := cp1 }), .bool true, .bool false, .bool false, .bool false, .agg (cnCells { DT with pa := some ⟨gg3, 0, none⟩, pc := cpp3 }), .agg (cnCells { DT with pa := some ⟨gg1, 0, none⟩, pc := cpp1 }), .bool true, .bool false, .bool false, undef, undef, undef, undef, undef, undef, undef, undef, undef, undef, undef, undef, undef] ?_
            go_upto_region 42 with (fail)
            refine vR ?_
            refine vB cn_big qB46 (cn_size _) ?_
            refine vV (.int .i64 1) ?_
            refine vK (heldCn DF g2 _ _ _ 1 (by omega) (by omega) _ H2 hM5) ?_
            intro qw94 qg95
            replace qB2 := qB2.since qg95
            replace qB5 := qB5.since qg95
            replace qB8 := qB8.since qg95
            replace qB21 := qB21.since qg95
            replace qB22 := qB22.since qg95
            replace qB23 := qB23.since qg95
            replace qB31 := qB31.since qg95
            replace qB39 := qB39.since qg95
            replace qB45 := qB45.since qg95
            replace qB46 := qB46.since qg95
            replace qB47 := qB47.since qg95
            replace qB85 := qB85.since qg95
            replace qB86 := qB86.since qg95
            replace qB87 := qB87.since qg95
            replace H1 := H1.since qg95
            replace K1 := K1.since qg95
            replace X1 := X1.since qg95
            replace X2 := X2.since qg95
            replace H2 := H2.since qg95
            replace K2 := K2.since qg95
            replace H3 := H3.since qg95
            replace K3 := K3.since qg95
            replace G := G.trans qg95
            have qg95_s := qg95.size
            refine vV (.int .i64 (1 + 2 * DF.pn)) ?_
            refine vE #[.agg #[.int .i64 rm0, .string d0, .bool e0, .int .i64 n0], .agg (cnCells c1), .agg (cnCells c2), .pointer (some ⟨w.heap.size, 0, none⟩), .pointer (some ⟨qw1.heap.size, 0, none⟩), .pointer (some ⟨qw4.heap.size, 0, none⟩), .bool false, .int .i64 r2, .pointer (some ⟨qx18, 0, none⟩), .pointer (some ⟨qx19, 0, none⟩), .pointer (some ⟨qx20, 0, none⟩), .pointer (some ⟨qw24.heap.size, 0, none⟩), .pointer (some ⟨qw32.heap.size, 0, none⟩), .pointer (some ⟨qx42, 0, none⟩), .pointer (some ⟨qx43, 0, none⟩), .pointer (some ⟨qx44, 0, none⟩), .int .i64 ((1 + 2 * c1.pn) + 2 * c2.pn), .int .i64 ((1 + 2 * DF.pn) + 2 * DT.pn), .int .i64 (1 + 2 * DF.pn), .pointer (some ⟨qx82, 0, none⟩), .pointer (some ⟨qx83, 0, none⟩), .pointer (some ⟨qx84, 0, none⟩), .agg #[.int .i64 rm0, .string d0, .bool e0, .int .i64 n0], .int .i64 1048576, .int .i64 l0, .int .i64 l0, .bool (decide (l0 < 0)), .agg (cnCells c1), .int .i64 l0, .int .i64 r1, .int .i64 r1, .bool (decide (r1 < 0)), .agg (cnCells c2), .int .i64 r1, .int .i64 r2, .int .i64 r2, .bool (decide (r2 < 0)), .tuple #[.agg #[.int .i64 rm0, .string xD, .bool xE, .int .i64 xN], .agg (cnCells { DF with pa := some ⟨g1, 0, none⟩, pc := cp1 }), .agg (cnCells { DT with pa := some ⟨gg1, 0, none⟩, pc := cpp1 })], .agg #[.int .i64 rm0, .string d0, .bool e0, .int .i64 n0], .agg #[.int .i64 rm0, .string d0, .bool e0, .int .i64 n0], .agg (cnCells c1), .agg (cnCells { c1 with pa := some ⟨qf3r11, 0, none⟩, pc := c1.pn }), .agg (cnCells c2), .agg (cnCells { c2 with pa := some ⟨qf5r11, 0, none⟩, pc := c2.pn }), .tuple #[.agg #[.int .i64 rm0, .string xD, .bool xE, .int .i64 xN], .agg (cnCells { DF with pa := some ⟨g1c, 0, none⟩, pc := cp1c }), .agg (cnCells { DT with pa := some ⟨gg1c, 0, none⟩, pc := cpp1c })], .agg #[.int .i64 rm0, .string xD, .bool xE, .int .i64 xN], .agg (cnCells { DF with pa := some ⟨g1, 0, none⟩, pc := cp1 }), .agg (cnCells { DT with pa := some ⟨gg1, 0, none⟩, pc := cpp1 }), .agg (cnCells c1), .agg (cnCells { c1 with pa := some ⟨y1, 0, none⟩, pc := c1.pn }), .agg (cnCells c2), .agg (cnCells { c2 with pa := some ⟨y2, 0, none⟩, pc := c2.pn }), .tuple #[.agg #[.int .i64 rm0, .string xD, .bool xE, .int .i64 xN], .agg (cnCells { DF with pa := some ⟨g2, 0, none⟩, pc := cp2 }), .agg (cnCells { DT with pa := some ⟨gg2, 0, none⟩, pc := cpp2 })], .agg #[.int .i64 rm0, .string d0, .bool e0, .int .i64 n0], .agg #[.int .i64 rm0, .string d0, .bool e0, .int .i64 n0], .agg (cnCells { c1 with pa := some ⟨y1, 0, none⟩, pc := c1.pn }), .agg (cnCells { c2 with pa := some ⟨y2, 0, none⟩, pc := c2.pn }), .tuple #[.agg #[.int .i64 rm0, .string xD, .bool xE, .int .i64 xN], .agg (cnCells { DF with pa := some ⟨g2c, 0, none⟩, pc := cp2c }), .agg (cnCells { DT with pa := some ⟨gg2c, 0, none⟩, pc := cpp2c })], .agg #[.int .i64 rm0, .string xD, .bool xE, .int .i64 xN], .agg (cnCells { DF with pa := some ⟨g2, 0, none⟩, pc := cp2 }), .agg (cnCells { DT with pa := some ⟨gg2, 0, none⟩, pc := cpp2 }), .agg #[.int .i64 rm0, .string xD, .bool xE, .int .i64 xN], .agg #[.int .i64 rm0, .string xD, .bool xE, .int .i64 xN], .bool true, .bool false, .bool false, .agg (cnCells { DF with pa := some ⟨g2, 0, none⟩, pc := cp2 }), .agg (cnCells { DF with pa := some ⟨g1, 0, none⟩, pc := cp1 }), .bool true, .bool false, .bool false, .bool false, .agg (cnCells { DT with pa := some ⟨gg2, 0, none⟩, pc := cpp2 }), .agg (cnCells { DT with pa := some ⟨gg1, 0, none⟩, pc := cpp1 }), .bool true, .bool false, .bool false, .agg (cnCells { c1 with pa := some ⟨y1, 0, none⟩, pc := c1.pn }), .agg (cnCells c1), .agg (cnCells { c1 with pa := some ⟨qz57, 0, none⟩, pc := c1.pn }), .bool true, .bool false, .agg (cnCells { c2 with pa := some ⟨y2, 0, none⟩, pc := c2.pn }), .agg (cnCells c2), .agg (cnCells { c2 with pa := some ⟨qz61, 0, none⟩, pc := c2.pn }), .bool true, .bool false, .agg (cnCells { c1 with pa := some ⟨y1, 0, none⟩, pc := c1.pn }), .int .i64 1, .int .i64 (1 + 2 * c1.pn), .agg (cnCells { c2 with pa := some ⟨y2, 0, none⟩, pc := c2.pn }), .int .i64 (1 + 2 * c1.pn), .int .i64 ((1 + 2 * c1.pn) + 2 * c2.pn), .int .i64 ((1 + 2 * c1.pn) + 2 * c2.pn), .bool false, .bool false, .agg #[.int .i64 rm0, .string xD, .bool xE, .int .i64 xN], .agg #[.int .i64 rm0, .string xD, .bool xE, .int .i64 xN], .bool true, .bool false, .bool false, .bool false, .agg (cnCells { DF with pa := some ⟨g2, 0, none⟩, pc := cp2 }), .agg (cnCells { DF with pa := some ⟨g1, 0, none⟩, pc := cp1 }), .bool true, .bool false, .bool false, .bool false, .agg (cnCells { DT with pa := some ⟨gg2, 0, none⟩, pc := cpp2 }), .agg (cnCells { DT with pa := some ⟨gg1, 0, none⟩, pc := cpp1 }), .bool true, .bool false, .bool false, .agg (cnCells { DF with pa := some ⟨g2, 0, none⟩, pc := cp2 }), .int .i64 1, .int .i64 (1 + 2 * DF.pn), .agg (cnCells { DT with pa := some ⟨gg2, 0, none⟩, pc := cpp2 }), .int .i64 (1 + 2 * DF.pn), .int .i64 ((1 + 2 * DF.pn) + 2 * DT.pn), .agg (cnCells { DF with pa := some ⟨g2, 0, none⟩, pc := cp2 }), .int .i64 1, .int .i64 (1 + 2 * DF.pn), .int .i64 (1 + 2 * DF.pn), .bool (decide ((1 + 2 * DF.pn) < 0)), .agg (cnCells { DT with pa := some ⟨gg2, 0, none⟩, pc := cpp2 }), .int .i64 (1 + 2 * DF.pn), .int .i64 ((1 + 2 * DF.pn) + 2 * DT.pn), .int .i64 ((1 + 2 * DF.pn) + 2 * DT.pn), .bool (decide (((1 + 2 * DF.pn) + 2 * DT.pn) < 0)), .int .i64 ((1 + 2 * DF.pn) + 2 * DT.pn), .int .i64 ((1 + 2 * DF.pn) + 2 * DT.pn), .bool false, .tuple #[.agg #[.int .i64 rm0, .string xD, .bool xE, .int .i64 xN], .agg (cnCells { DF with pa := some ⟨g3, 0, none⟩, pc := cp3 }), .agg (cnCells { DT with pa := some ⟨gg3, 0, none⟩, pc := cpp3 })], .agg #[.int .i64 rm0, .string d0, .bool e0, .int .i64 n0], .agg #[.int .i64 rm0, .string d0, .bool e0, .int .i64 n0], .agg (cnCells c1), .agg (cnCells { c1 with pa := some ⟨qf3r38, 0, none⟩, pc := c1.pn }), .agg (cnCells c2), .agg (cnCells { c2 with pa := some ⟨qf5r38, 0, none⟩, pc := c2.pn }), .tuple #[.agg #[.int .i64 rm0, .string xD, .bool xE, .int .i64 xN], .agg (cnCells { DF with pa := some ⟨g3c, 0, none⟩, pc := cp3c }), .agg (cnCells { DT with pa := some ⟨gg3c, 0, none⟩, pc := cpp3c })], .agg #[.int .i64 rm0, .string xD, .bool xE, .int .i64 xN], .agg (cnCells { DF with pa := some ⟨g3, 0, none⟩, pc := cp3 }), .agg (cnCells { DT with pa := some ⟨gg3, 0, none⟩, pc := cpp3 }), .agg #[.int .i64 rm0, .string xD, .bool xE, .int .i64 xN], .agg #[.int .i64 rm0, .string xD, .bool xE, .int .i64 xN], .bool true, .bool false, .bool false, .agg (cnCells { DF with pa := some ⟨g3, 0, none⟩, pc := cp3 }), .agg (cnCells { DF with pa := some ⟨g1, 0, none⟩, pc := cp1 }), .bool true, .bool false, .bool false, .bool false, .agg (cnCells { DT with pa := some ⟨gg3, 0, none⟩, pc := cpp3 }), .agg (cnCells { DT with pa := some ⟨gg1, 0, none⟩, pc := cpp1 }), .bool true, .bool false, .bool false, .agg (cnCells { DF with pa := some ⟨g2, 0, none⟩, pc := cp2 }), .int .i64 1, .int .i64 (1 + 2 * DF.pn), undef, undef, undef, undef, undef, undef, undef, undef, undef, undef] ?_
            go_upto_region 45 with (fail)
            refine vR ?_
            refine vB cn_big qB47 (cn_size _) ?_
            refine vV (.int .i64 (1 + 2 * DF.pn)) ?_
            refine vK (heldCn DT gg2 _ _ _ (1 + 2 * DF.pn) (by omega) (by omega) _ K2 hM6) ?_
            intro qw96 qg97
            replace qB2 := qB2.since qg97
            replace qB5 := qB5.since qg97
            replace qB8 := qB8.since qg97
            replace qB21 := qB21.since qg97
            replace qB22 := qB22.since qg97
            replace qB23 := qB23.since qg97
            replace qB31 := qB31.since qg97
            replace qB39 := qB39.since qg97
            replace qB45 := qB45.since qg97
            replace qB46 := qB46.since qg97
            replace qB47 := qB47.since qg97
            replace qB85 := qB85.since qg97
            replace qB86 := qB86.since qg97
            replace qB87 := qB87.since qg97
            replace H1 := H1.since qg97
            replace K1 := K1.since qg97
            replace X1 := X1.since qg97
            replace X2 := X2.since qg97
            replace H2 := H2.since qg97
            replace K2 := K2.since qg97
            replace H3 := H3.since qg97
            replace K3 := K3.since qg97
            replace G := G.trans qg97
            have qg97_s := qg97.size
            refine vV (.int .i64 ((1 + 2 * DF.pn) + 2 * DT.pn)) ?_
            refine vE #[.agg #[.int .i64 rm0, .string d0, .bool e0, .int .i64 n0], .agg (cnCells c1), .agg (cnCells c2), .pointer (some ⟨w.heap.size, 0, none⟩), .pointer (some ⟨qw1.heap.size, 0, none⟩), .pointer (some ⟨qw4.heap.size, 0, none⟩), .bool false, .int .i64 r2, .pointer (some ⟨qx18, 0, none⟩), .pointer (some ⟨qx19, 0, none⟩), .pointer (some ⟨qx20, 0, none⟩), .pointer (some ⟨qw24.heap.size, 0, none⟩), .pointer (some ⟨qw32.heap.size, 0, none⟩), .pointer (some ⟨qx42, 0, none⟩), .pointer (some ⟨qx43, 0, none⟩), .pointer (some ⟨qx44, 0, none⟩), .int .i64 ((1 + 2 * c1.pn) + 2 * c2.pn), .int .i64 ((1 + 2 * DF.pn) + 2 * DT.pn), .int .i64 ((1 + 2 * DF.pn) + 2 * DT.pn), .pointer (some ⟨qx82, 0, none⟩), .pointer (some ⟨qx83, 0, none⟩), .pointer (some ⟨qx84, 0, none⟩), .agg #[.int .i64 rm0, .string d0, .bool e0, .int .i64 n0], .int .i64 1048576, .int .i64 l0, .int .i64 l0, .bool (decide (l0 < 0)), .agg (cnCells c1), .int .i64 l0, .int .i64 r1, .int .i64 r1, .bool (decide (r1 < 0)), .agg (cnCells c2), .int .i64 r1, .int .i64 r2, .int .i64 r2, .bool (decide (r2 < 0)), .tuple #[.agg #[.int .i64 rm0, .string xD, .bool xE, .int .i64 xN], .agg (cnCells { DF with pa := some ⟨g1, 0, none⟩, pc := cp1 }), .agg (cnCells { DT with pa := some ⟨gg1, 0, none⟩, pc := cpp1 })], .agg #[.int .i64 rm0, .string d0, .bool e0, .int .i64 n0], .agg #[.int .i64 rm0, .string d0, .bool e0, .int .i64 n0], .agg (cnCells c1), .agg (cnCells { c1 with pa := some ⟨qf3r11, 0, none⟩, pc := c1.pn }), .agg (cnCells c2), .agg (cnCells { c2 with pa := some ⟨qf5r11, 0, none⟩, pc := c2.pn }), .tuple #[.agg #[.int .i64 rm0, .string xD, .bool xE, .int .i64 xN], .agg (cnCells { DF with pa := some ⟨g1c, 0, none⟩, pc := cp1c }), .agg (cnCells { DT with pa := some ⟨gg1c, 0, none⟩, pc := cpp1c })], .agg #[.int .i64 rm0, .string xD, .bool xE, .int .i64 xN], .agg (cnCells { DF with pa := some ⟨g1, 0, none⟩, pc := cp1 }), .agg (cnCells { DT with pa := some ⟨gg1, 0, none⟩, pc := cpp1 }), .agg (cnCells c1), .agg (cnCells { c1 with pa := some ⟨y1, 0, none⟩, pc := c1.pn }), .agg (cnCells c2), .agg (cnCells { c2 with pa := some ⟨y2, 0, none⟩, pc := c2.pn }), .tuple #[.agg #[.int .i64 rm0, .string xD, .bool xE, .int .i64 xN], .agg (cnCells { DF with pa := some ⟨g2, 0, none⟩, pc := cp2 }), .agg (cnCells { DT with pa := some ⟨gg2, 0, none⟩, pc := cpp2 })], .agg #[.int .i64 rm0, .string d0, .bool e0, .int .i64 n0], .agg #[.int .i64 rm0, .string d0, .bool e0, .int .i64 n0], .agg (cnCells { c1 with pa := some ⟨y1, 0, none⟩, pc := c1.pn }), .agg (cnCells { c2 with pa := some ⟨y2, 0, none⟩, pc := c2.pn }), .tuple #[.agg #[.int .i64 rm0, .string xD, .bool xE, .int .i64 xN], .agg (cnCells { DF with pa := some ⟨g2c, 0, none⟩, pc := cp2c }), .agg (cnCells { DT with pa := some ⟨gg2c, 0, none⟩, pc := cpp2c })], .agg #[.int .i64 rm0, .string xD, .bool xE, .int .i64 xN], .agg (cnCells { DF with pa := some ⟨g2, 0, none⟩, pc := cp2 }), .agg (cnCells { DT with pa := some ⟨gg2, 0, none⟩, pc := cpp2 }), .agg #[.int .i64 rm0, .string xD, .bool xE, .int .i64 xN], .agg #[.int .i64 rm0, .string xD, .bool xE, .int .i64 xN], .bool true, .bool false, .bool false, .agg (cnCells { DF with pa := some ⟨g2, 0, none⟩, pc := cp2 }), .agg (cnCells { DF with pa := some ⟨g1, 0, none⟩, pc := cp1 }), .bool true, .bool false, .bool false, .bool false, .agg (cnCells { DT with pa := some ⟨gg2, 0, none⟩, pc := cpp2 }), .agg (cnCells { DT with pa := some ⟨gg1, 0, none⟩, pc := cpp1 }), .bool true, .bool false, .bool false, .agg (cnCells { c1 with pa := some ⟨y1, 0, none⟩, pc := c1.pn }), .agg (cnCells c1), .agg (cnCells { c1 with pa := some ⟨qz57, 0, none⟩, pc := c1.pn }), .bool true, .bool false, .agg (cnCells { c2 with pa := some ⟨y2, 0, none⟩, pc := c2.pn }), .agg (cnCells c2), .agg (cnCells { c2 with pa := some ⟨qz61, 0, none⟩, pc := c2.pn }), .bool true, .bool false, .agg (cnCells { c1 with pa := some ⟨y1, 0, none⟩, pc := c1.pn }), .int .i64 1, .int .i64 (1 + 2 * c1.pn), .agg (cnCells { c2 with pa := some ⟨y2, 0, none⟩, pc := c2.pn }), .int .i64 (1 + 2 * c1.pn), .int .i64 ((1 + 2 * c1.pn) + 2 * c2.pn), .int .i64 ((1 + 2 * c1.pn) + 2 * c2.pn), .bool false, .bool false, .agg #[.int .i64 rm0, .string xD, .bool xE, .int .i64 xN], .agg #[.int .i64 rm0, .string xD, .bool xE, .int .i64 xN], .bool true, .bool false, .bool false, .bool false, .agg (cnCells { DF with pa := some ⟨g2, 0, none⟩, pc := cp2 }), .agg (cnCells { DF with pa := some ⟨g1, 0, none⟩, pc := cp1 }), .bool true, .bool false, .bool false, .bool false, .agg (cnCells { DT with pa := some ⟨gg2, 0, none⟩, pc := cpp2 }), .agg (cnCells { DT with pa := some ⟨gg1, 0, none⟩, pc := cpp1 }), .bool true, .bool false, .bool false, .agg (cnCells { DF with pa := some ⟨g2, 0, none⟩, pc := cp2 }), .int .i64 1, .int .i64 (1 + 2 * DF.pn), .agg (cnCells { DT with pa := some ⟨gg2, 0, none⟩, pc := cpp2 }), .int .i64 (1 + 2 * DF.pn), .int .i64 ((1 + 2 * DF.pn) + 2 * DT.pn), .agg (cnCells { DF with pa := some ⟨g2, 0, none⟩, pc := cp2 }), .int .i64 1, .int .i64 (1 + 2 * DF.pn), .int .i64 (1 + 2 * DF.pn), .bool (decide ((1 + 2 * DF.pn) < 0)), .agg (cnCells { DT with pa := some ⟨gg2, 0, none⟩, pc := cpp2 }), .int .i64 (1 + 2 * DF.pn), .int .i64 ((1 + 2 * DF.pn) + 2 * DT.pn), .int .i64 ((1 + 2 * DF.pn) + 2 * DT.pn), .bool (decide (((1 + 2 * DF.pn) + 2 * DT.pn) < 0)), .int .i64 ((1 + 2 * DF.pn) + 2 * DT.pn), .int .i64 ((1 + 2 * DF.pn) + 2 * DT.pn), .bool false, .tuple #[.agg #[.int .i64 rm0, .string xD, .bool xE, .int .i64 xN], .agg (cnCells { DF with pa := some ⟨g3, 0, none⟩, pc := cp3 }), .agg (cnCells { DT with pa := some ⟨gg3, 0, none⟩, pc := cpp3 })], .agg #[.int .i64 rm0, .string d0, .bool e0, .int .i64 n0], .agg #[.int .i64 rm0, .string d0, .bool e0, .int .i64 n0], .agg (cnCells c1), .agg (cnCells { c1 with pa := some ⟨qf3r38, 0, none⟩, pc := c1.pn }), .agg (cnCells c2), .agg (cnCells { c2 with pa := some ⟨qf5r38, 0, none⟩, pc := c2.pn }), .tuple #[.agg #[.int .i64 rm0, .string xD, .bool xE, .int .i64 xN], .agg (cnCells { DF with pa := some ⟨g3c, 0, none⟩, pc := cp3c }), .agg (cnCells { DT with pa := some ⟨gg3c, 0, none⟩, pc := cpp3c })], .agg #[.int .i64 rm0, .string xD, .bool xE, .int .i64 xN], .agg (cnCells { DF with pa := some ⟨g3, 0, none⟩, pc := cp3 }), .agg (cnCells { DT with pa := some ⟨gg3, 0, none⟩, pc := cpp3 }), .agg #[.int .i64 rm0, .string xD, .bool xE, .int .i64 xN], .agg #[.int .i64 rm0, .string xD, .bool xE, .int .i64 xN], .bool true, .bool false, .bool false, .agg (cnCells { DF with pa := some ⟨g3, 0, none⟩, pc := cp3 }), .agg (cnCells { DF with pa := some ⟨g1, 0, none⟩, pc := cp1 }), .bool true, .bool false, .bool false, .bool false, .agg (cnCells { DT with pa := some ⟨gg3, 0, none⟩, pc := cpp3 }), .agg (cnCells { DT with pa := some ⟨gg1, 0, none⟩, pc := cpp1 }), .bool true, .bool false, .bool false, .agg (cnCells { DF with pa := some ⟨g2, 0, none⟩, pc := cp2 }), .int .i64 1, .int .i64 (1 + 2 * DF.pn), .int .i64 (1 + 2 * DF.pn), .bool (decide ((1 + 2 * DF.pn) < 0)), .agg (cnCells { DT with pa := some ⟨gg2, 0, none⟩, pc := cpp2 }), .int .i64 (1 + 2 * DF.pn), .int .i64 ((1 + 2 * DF.pn) + 2 * DT.pn), undef, undef, undef, undef, undef] ?_
            go_wp2_with (fail)
            go_ret
            exact ⟨rfl, G⟩

set_option maxRecDepth 100000 in
theorem lifted (os : Os) (started : os.Started) (H : Type) (enc : TypeId × Value → H) :
    ReturnsInHanded {} Tryz.checked os 3 .any (Rows.fnExactPipeMoveSpec.pre6 enc Tryz.prog Tryz.f3 Rows.fnExactPipeMoveRow.domain false) (Rows.fnExactPipeMoveSpec.post enc Tryz.prog Tryz.f3 false true false false) := by
  refine returnsInHanded_of_change (C := Tryz.checked) own started (by kernel_rfl) Tryz.func3
    (ChangeSpec.witness6 (enc := enc) (C := Tryz.checked) false ⟨#[], #[.agg #[.int .i64 0, .string ByteArray.empty, .bool false, .int .i64 0], .agg #[.int .i64 0, .int .u32 0, .int .u32 0, .int .u32 0, .int .u32 0, .int .i64 0, .int .u32 0, .int .u32 0, .int .u32 0, .string ByteArray.empty, .int .i64 0, .int .u32 0, .string ByteArray.empty, .slice none 0 0, .int .i64 0, .bool false, .bool false, .int .u32 0, .bool false, .bool false, .int .i64 0, .int .i64 0, .int .i64 0, .int .i64 0, .int .i64 0, .int .i64 0, .bool false, .int .u32 0, .bool false, .int .u32 0, .int .i64 0, .int .i64 0, .int .i64 0, .int .i64 0, .int .i64 0, .int .i64 0, .bool false], .agg #[.int .i64 0, .int .u32 0, .int .u32 0, .int .u32 0, .int .u32 0, .int .i64 0, .int .u32 0, .int .u32 0, .int .u32 0, .string ByteArray.empty, .int .i64 0, .int .u32 0, .string ByteArray.empty, .slice none 0 0, .int .i64 0, .bool false, .bool false, .int .u32 0, .bool false, .bool false, .int .i64 0, .int .i64 0, .int .i64 0, .int .i64 0, .int .i64 0, .int .i64 0, .bool false, .int .u32 0, .bool false, .int .u32 0, .int .i64 0, .int .i64 0, .int .i64 0, .int .i64 0, .int .i64 0, .int .i64 0, .bool false]], []⟩ 8 (by kernel_rfl) (by kernel_rfl) (by kernel_rfl) (by kernel_rfl)) ?_
  intro W base args ds gs before hval0 hW hcnd _
  have hval : ∀ (j : Nat) t v, Tryz.f3.params[j]? = some t → args[j]? = some v → Value.okWide Tryz.prog W .any base t v := hval0
  have hW' := hW
  obtain ⟨p, q, hA0, hV, rfl, hfz, hnd⟩ := hW
  have hA : DataW.TrodAll enc Tryz.prog W 0 (fun _ => true) true Tryz.f3.params.toList args.toList ds p := hA0
  rw [Tryz.params3] at hA hval
  obtain ⟨v0, vs0, d0, ds0, p0, q0, hargs, rfl, rfl, h0, r0⟩ := trodAll_cons hA
  obtain ⟨v1, vs1, d1, ds1, p1, q1, rfl, rfl, rfl, h1, r1⟩ := trodAll_cons r0
  obtain ⟨v2, vs2, d2, ds2, p2, q2, rfl, rfl, rfl, h2, r2⟩ := trodAll_cons r1
  obtain ⟨rfl, rfl, rfl⟩ := trodAll_nil r2
  obtain rfl : args = #[v0, v1, v2] := by cases args; simp_all
  obtain ⟨rfl, rfl⟩ := trodVars_none hV
  have e0 := h0
  have lt0 : ∀ x ∈ p0, x.block < W.heap.size := by obtain ⟨m, hm⟩ := e0; exact DataW.trod_lt m _ _ _ hm
  have e1 := h1
  have lt1 : ∀ x ∈ p1, x.block < W.heap.size := by obtain ⟨m, hm⟩ := e1; exact DataW.trod_lt m _ _ _ hm
  have e2 := h2
  have lt2 : ∀ x ∈ p2, x.block < W.heap.size := by obtain ⟨m, hm⟩ := e2; exact DataW.trod_lt m _ _ _ hm
  obtain ⟨rv0, dv0, ev0, nv0, rfl, x0, z0, y0⟩ := open_pipe (hval 0 23 v0 rfl rfl) h0
  obtain ⟨cv1, pv1, rfl, R1, u1⟩ := open_conn (hval 1 35 v1 rfl rfl) h1
  obtain ⟨cv2, pv2, rfl, R2, u2⟩ := open_conn (hval 2 35 v2 rfl rfl) h2
  clear hA0 hval0
  refine (walk rv0 dv0 ev0 nv0 cv1 pv1 cv2 pv2 W x0 z0 y0 R1 u1 R2 u2).mono fun e W' ⟨he, bel⟩ => ?_
  subst he
  exact ⟨_, rfl, _, _, _, [], _, [], hW', trodAll_mk1 (shut_bool Tryz.underlying4 _), (trodAll_cons_mk (Below.trod laidOut (by kernel_rfl) (of_decide_eq_true (by kernel_rfl)) e0 bel lt0) (trodAll_cons_mk (Below.trod laidOut (by kernel_rfl) (of_decide_eq_true (by kernel_rfl)) e1 bel lt1) (trodAll_cons_mk (Below.trod laidOut (by kernel_rfl) (of_decide_eq_true (by kernel_rfl)) e2 bel lt2) trodAll_mk0))), rfl, bel.frame _, fun h => by cases h⟩

theorem over : Rows.fnExactPipeMoveRow.holds Tryz.pinned (OpenSpec.ofChange Rows.fnExactPipeMoveSpec) :=
  OpenClaim.holds_of_wide 3 Tryz.f3 rfl rfl rfl rfl rfl rfl rfl ⟨rfl, rfl, rfl, rfl, rfl⟩ rfl rfl rfl rfl rfl (by kernel_rfl) Tryz.func3 (by kernel_rfl)
    (of_decide_eq_true (by kernel_rfl)) (by unfold Func.isWrapper; first | (rw [if_pos (by decide +kernel)]; kernel_rfl) | (rw [if_neg (by decide +kernel)]; exact ⟨rfl, rfl⟩))
    (fun os started H enc _ => lifted os started H enc)

theorem proved : Rows.FnExactPipeMoveSaid := over
end Go.Proofs.YtipaaddjpmlajaaGreat.fnExactPipeMove

namespace Go.Proofs.YtipaaddjpmlajaaGreat
theorem fnExactPipeMove_holds : Rows.FnExactPipeMoveSaid := fnExactPipeMove.proved
#print axioms fnExactPipeMove_holds
end Go.Proofs.YtipaaddjpmlajaaGreat
