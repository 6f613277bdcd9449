/-
  Proved: at every argument impl.RelayStart answers as spec.RelayStart (the law FnExactRelayStart returns true, and its argument reads as before); no condition.
-/
import Derived.Test.YtipaaddjpmlajaaRows
import Derived.Test.YtipaaddjpmlajaaRelay
import Derived.WalkKit
import Derived.ProofKit
import Derived.OpenShut
import Derived.ShutString
import Derived.ChangeOld
import Derived.Below
import Derived.Carry
namespace Go.Proofs.Ytipaaddjpmlajaa.fnExactRelayStart
open Go.ChangeShapes Go.WideShapes Go.ChangeAt Go.RowKit
open Go.ChangeMaps (open_string shut_string)
set_option linter.unusedVariables false

theorem own : ownKnob Try.prog.godebug = none := by kernel_rfl
theorem laidOut : laidOutB Try.prog = true := by kernel_rfl

theorem walk (b0 : Int) (w : World) (x0 : (Lit.int .i64 b0).wf = true) :
    Calls Try.prog 4 #[.int .i64 b0] w fun e w' => e = .returned (.bool true) ∧ Below w.heap.size w w' := by
  by_cases h : 1 ≤ b0 ∧ b0 ≤ 2048
  case pos =>
    have hs := fun wx => specRStart b0 wx
    have hi := fun wx => implRStart b0 wx
    have he := fun wx => eqRelay b0 ByteArray.empty false 0 b0 ByteArray.empty false 0 wx
    unfold rlVal at he
    unfold startV at hs hi
    rw [if_pos h] at hs hi
    clear h
    have G := Since.refl w
    go_enter Try.func4, Try.ntmps4
    go_upto_region 1 with (fail)
    refine wp_region_lit ?_
    refine move_step rfl _ rfl ?_
    refine call_step rfl 10 #[.int .i64 b0] (by kernel_rfl) (hs _) ?_
    rintro _ qw1 ⟨rfl, qg2⟩
    refine ⟨_, rfl, ?_⟩
    replace G := G.trans qg2
    have qg2_s := qg2.size
    refine move_step rfl _ rfl ?_
    refine step_val (w' := qw1) rfl (.agg #[.int .i64 b0, .string ByteArray.empty, .bool false, .int .i64 0, .int .i64 b0, .string ByteArray.empty, .bool false, .int .i64 0]) (by kernel_rfl) ?_
    refine wpList_frame (a' := { tmps := #[.int .i64 b0, undef, .bool false, undef, undef, undef, undef, .tuple #[.agg #[.int .i64 b0, .string ByteArray.empty, .bool false, .int .i64 0, .int .i64 b0, .string ByteArray.empty, .bool false, .int .i64 0], .bool true], .int .i64 b0, .tuple #[.agg #[.int .i64 b0, .string ByteArray.empty, .bool false, .int .i64 0, .int .i64 b0, .string ByteArray.empty, .bool false, .int .i64 0], .bool true], .agg #[.int .i64 b0, .string ByteArray.empty, .bool false, .int .i64 0, .int .i64 b0, .string ByteArray.empty, .bool false, .int .i64 0], undef, undef, undef, undef, undef, undef, undef, undef, undef, undef, undef, undef, undef, undef, undef], defers := [] }) (by kernel_rfl) ?_
    refine step_val (w' := qw1) rfl (.bool true) (by kernel_rfl) ?_
    refine step_val (w' := qw1.alloc (.cells (#[.int .i64 0, .string ByteArray.empty, .bool false, .int .i64 0, .int .i64 0, .string ByteArray.empty, .bool false, .int .i64 0]) 30)) rfl (.pointer (some ⟨qw1.heap.size, 0, none⟩)) (by kernel_rfl) ?_
    have qB4 := Blk.new qw1 (#[.int .i64 0, .string ByteArray.empty, .bool false, .int .i64 0, .int .i64 0, .string ByteArray.empty, .bool false, .int .i64 0]) 30
    have qg5 := (Since.refl qw1).alloc (.cells (#[.int .i64 0, .string ByteArray.empty, .bool false, .int .i64 0, .int .i64 0, .string ByteArray.empty, .bool false, .int .i64 0]) 30)
    replace G := G.trans qg5
    generalize qw1.alloc (.cells (#[.int .i64 0, .string ByteArray.empty, .bool false, .int .i64 0, .int .i64 0, .string ByteArray.empty, .bool false, .int .i64 0]) 30) = qw3 at  G qB4 qg5 ⊢
    have qB4_l := qB4.lt
    have qg5_s := qg5.size
    refine store_big rl_big rfl rfl (by simp [Value.oneCell']) qB4 rfl _ _ rfl rfl rfl ?_
    intro qw6 qt7 qB8
    clear qB4
    replace G := since_touch G qt7 (by omega)
    have qt7_s := qt7.size
    refine step_val (w' := qw6) rfl (.bool true) (by kernel_rfl) ?_
    refine wpList_frame (a' := { tmps := #[.int .i64 b0, undef, .bool false, .pointer (some ⟨qw1.heap.size, 0, none⟩), .bool true, undef, undef, .tuple #[.agg #[.int .i64 b0, .string ByteArray.empty, .bool false, .int .i64 0, .int .i64 b0, .string ByteArray.empty, .bool false, .int .i64 0], .bool true], .int .i64 b0, .tuple #[.agg #[.int .i64 b0, .string ByteArray.empty, .bool false, .int .i64 0, .int .i64 b0, .string ByteArray.empty, .bool false, .int .i64 0], .bool true], .agg #[.int .i64 b0, .string ByteArray.empty, .bool false, .int .i64 0, .int .i64 b0, .string ByteArray.empty, .bool false, .int .i64 0], .bool true, undef, undef, undef, undef, undef, undef, undef, undef, undef, undef, undef, undef, undef, undef], defers := [] }) (by kernel_rfl) ?_
    go_upto_region 2 with (fail)
    refine wp_region_lit ?_
    refine move_step rfl _ rfl ?_
    refine call_step rfl 11 #[.int .i64 b0] (by kernel_rfl) (hi _) ?_
    rintro _ qw9 ⟨rfl, qg10⟩
    refine ⟨_, rfl, ?_⟩
    replace qB8 := qB8.since qg10
    replace G := G.trans qg10
    have qg10_s := qg10.size
    refine move_step rfl _ rfl ?_
    refine step_val (w' := qw9) rfl (.agg #[.int .i64 b0, .string ByteArray.empty, .bool false, .int .i64 0, .int .i64 b0, .string ByteArray.empty, .bool false, .int .i64 0]) (by kernel_rfl) ?_
    refine wpList_frame (a' := { tmps := #[.int .i64 b0, undef, .bool false, .pointer (some ⟨qw1.heap.size, 0, none⟩), .bool true, undef, undef, .tuple #[.agg #[.int .i64 b0, .string ByteArray.empty, .bool false, .int .i64 0, .int .i64 b0, .string ByteArray.empty, .bool false, .int .i64 0], .bool true], .int .i64 b0, .tuple #[.agg #[.int .i64 b0, .string ByteArray.empty, .bool false, .int .i64 0, .int .i64 b0, .string ByteArray.empty, .bool false, .int .i64 0], .bool true], .agg #[.int .i64 b0, .string ByteArray.empty, .bool false, .int .i64 0, .int .i64 b0, .string ByteArray.empty, .bool false, .int .i64 0], .bool true, .tuple #[.agg #[.int .i64 b0, .string ByteArray.empty, .bool false, .int .i64 0, .int .i64 b0, .string ByteArray.empty, .bool false, .int .i64 0], .bool true], .int .i64 b0, .tuple #[.agg #[.int .i64 b0, .string ByteArray.empty, .bool false, .int .i64 0, .int .i64 b0, .string ByteArray.empty, .bool false, .int .i64 0], .bool true], .agg #[.int .i64 b0, .string ByteArray.empty, .bool false, .int .i64 0, .int .i64 b0, .string ByteArray.empty, .bool false, .int .i64 0], undef, undef, undef, undef, undef, undef, undef, undef, undef, undef], defers := [] }) (by kernel_rfl) ?_
    refine step_val (w' := qw9) rfl (.bool true) (by kernel_rfl) ?_
    refine step_val (w' := qw9.alloc (.cells (#[.int .i64 0, .string ByteArray.empty, .bool false, .int .i64 0, .int .i64 0, .string ByteArray.empty, .bool false, .int .i64 0]) 30)) rfl (.pointer (some ⟨qw9.heap.size, 0, none⟩)) (by kernel_rfl) ?_
    have qB12 := Blk.new qw9 (#[.int .i64 0, .string ByteArray.empty, .bool false, .int .i64 0, .int .i64 0, .string ByteArray.empty, .bool false, .int .i64 0]) 30
    have qg13 := (Since.refl qw9).alloc (.cells (#[.int .i64 0, .string ByteArray.empty, .bool false, .int .i64 0, .int .i64 0, .string ByteArray.empty, .bool false, .int .i64 0]) 30)
    replace qB8 := qB8.since qg13
    replace G := G.trans qg13
    generalize qw9.alloc (.cells (#[.int .i64 0, .string ByteArray.empty, .bool false, .int .i64 0, .int .i64 0, .string ByteArray.empty, .bool false, .int .i64 0]) 30) = qw11 at qB8 G qB12 qg13 ⊢
    have qB12_l := qB12.lt
    have qg13_s := qg13.size
    refine store_big rl_big rfl rfl (by simp [Value.oneCell']) qB12 rfl _ _ rfl rfl rfl ?_
    intro qw14 qt15 qB16
    clear qB12
    replace qB8 := qB8.touch qt15 (by omega)
    replace G := since_touch G qt15 (by omega)
    have qt15_s := qt15.size
    refine step_val (w' := qw14) rfl (.bool true) (by kernel_rfl) ?_
    refine wpList_frame (a' := { tmps := #[.int .i64 b0, undef, .bool false, .pointer (some ⟨qw1.heap.size, 0, none⟩), .bool true, .pointer (some ⟨qw9.heap.size, 0, none⟩), .bool true, .tuple #[.agg #[.int .i64 b0, .string ByteArray.empty, .bool false, .int .i64 0, .int .i64 b0, .string ByteArray.empty, .bool false, .int .i64 0], .bool true], .int .i64 b0, .tuple #[.agg #[.int .i64 b0, .string ByteArray.empty, .bool false, .int .i64 0, .int .i64 b0, .string ByteArray.empty, .bool false, .int .i64 0], .bool true], .agg #[.int .i64 b0, .string ByteArray.empty, .bool false, .int .i64 0, .int .i64 b0, .string ByteArray.empty, .bool false, .int .i64 0], .bool true, .tuple #[.agg #[.int .i64 b0, .string ByteArray.empty, .bool false, .int .i64 0, .int .i64 b0, .string ByteArray.empty, .bool false, .int .i64 0], .bool true], .int .i64 b0, .tuple #[.agg #[.int .i64 b0, .string ByteArray.empty, .bool false, .int .i64 0, .int .i64 b0, .string ByteArray.empty, .bool false, .int .i64 0], .bool true], .agg #[.int .i64 b0, .string ByteArray.empty, .bool false, .int .i64 0, .int .i64 b0, .string ByteArray.empty, .bool false, .int .i64 0], .bool true, undef, undef, undef, undef, undef, undef, undef, undef, undef], defers := [] }) (by kernel_rfl) ?_
    go_upto_region 3 with (fail)
    refine wp_region_lit ?_
    refine load_big rl_big rfl qB16 rfl _ rfl rfl ?_
    refine wpList_frame (a' := { tmps := #[.int .i64 b0, undef, .bool false, .pointer (some ⟨qw1.heap.size, 0, none⟩), .bool true, .pointer (some ⟨qw9.heap.size, 0, none⟩), .bool true, .tuple #[.agg #[.int .i64 b0, .string ByteArray.empty, .bool false, .int .i64 0, .int .i64 b0, .string ByteArray.empty, .bool false, .int .i64 0], .bool true], .int .i64 b0, .tuple #[.agg #[.int .i64 b0, .string ByteArray.empty, .bool false, .int .i64 0, .int .i64 b0, .string ByteArray.empty, .bool false, .int .i64 0], .bool true], .agg #[.int .i64 b0, .string ByteArray.empty, .bool false, .int .i64 0, .int .i64 b0, .string ByteArray.empty, .bool false, .int .i64 0], .bool true, .tuple #[.agg #[.int .i64 b0, .string ByteArray.empty, .bool false, .int .i64 0, .int .i64 b0, .string ByteArray.empty, .bool false, .int .i64 0], .bool true], .int .i64 b0, .tuple #[.agg #[.int .i64 b0, .string ByteArray.empty, .bool false, .int .i64 0, .int .i64 b0, .string ByteArray.empty, .bool false, .int .i64 0], .bool true], .agg #[.int .i64 b0, .string ByteArray.empty, .bool false, .int .i64 0, .int .i64 b0, .string ByteArray.empty, .bool false, .int .i64 0], .bool true, .agg #[.int .i64 b0, .string ByteArray.empty, .bool false, .int .i64 0, .int .i64 b0, .string ByteArray.empty, .bool false, .int .i64 0], undef, undef, undef, undef, undef, undef, undef, undef], defers := [] }) (by kernel_rfl) ?_
    refine load_big rl_big rfl qB8 rfl _ rfl rfl ?_
    refine wpList_frame (a' := { tmps := #[.int .i64 b0, undef, .bool false, .pointer (some ⟨qw1.heap.size, 0, none⟩), .bool true, .pointer (some ⟨qw9.heap.size, 0, none⟩), .bool true, .tuple #[.agg #[.int .i64 b0, .string ByteArray.empty, .bool false, .int .i64 0, .int .i64 b0, .string ByteArray.empty, .bool false, .int .i64 0], .bool true], .int .i64 b0, .tuple #[.agg #[.int .i64 b0, .string ByteArray.empty, .bool false, .int .i64 0, .int .i64 b0, .string ByteArray.empty, .bool false, .int .i64 0], .bool true], .agg #[.int .i64 b0, .string ByteArray.empty, .bool false, .int .i64 0, .int .i64 b0, .string ByteArray.empty, .bool false, .int .i64 0], .bool true, .tuple #[.agg #[.int .i64 b0, .string ByteArray.empty, .bool false, .int .i64 0, .int .i64 b0, .string ByteArray.empty, .bool false, .int .i64 0], .bool true], .int .i64 b0, .tuple #[.agg #[.int .i64 b0, .string ByteArray.empty, .bool false, .int .i64 0, .int .i64 b0, .string ByteArray.empty, .bool false, .int .i64 0], .bool true], .agg #[.int .i64 b0, .string ByteArray.empty, .bool false, .int .i64 0, .int .i64 b0, .string ByteArray.empty, .bool false, .int .i64 0], .bool true, .agg #[.int .i64 b0, .string ByteArray.empty, .bool false, .int .i64 0, .int .i64 b0, .string ByteArray.empty, .bool false, .int .i64 0], .agg #[.int .i64 b0, .string ByteArray.empty, .bool false, .int .i64 0, .int .i64 b0, .string ByteArray.empty, .bool false, .int .i64 0], undef, undef, undef, undef, undef, undef, undef], defers := [] }) (by kernel_rfl) ?_
    refine call_step rfl 12 #[.agg #[.int .i64 b0, .string ByteArray.empty, .bool false, .int .i64 0, .int .i64 b0, .string ByteArray.empty, .bool false, .int .i64 0], .agg #[.int .i64 b0, .string ByteArray.empty, .bool false, .int .i64 0, .int .i64 b0, .string ByteArray.empty, .bool false, .int .i64 0]] (by kernel_rfl) (he _) ?_
    rintro _ qw17 ⟨rfl, qg18⟩
    refine ⟨_, rfl, ?_⟩
    replace qB8 := qB8.since qg18
    replace qB16 := qB16.since qg18
    replace G := G.trans qg18
    have qg18_s := qg18.size
    refine wpList_frame (a' := { tmps := #[.int .i64 b0, undef, .bool false, .pointer (some ⟨qw1.heap.size, 0, none⟩), .bool true, .pointer (some ⟨qw9.heap.size, 0, none⟩), .bool true, .tuple #[.agg #[.int .i64 b0, .string ByteArray.empty, .bool false, .int .i64 0, .int .i64 b0, .string ByteArray.empty, .bool false, .int .i64 0], .bool true], .int .i64 b0, .tuple #[.agg #[.int .i64 b0, .string ByteArray.empty, .bool false, .int .i64 0, .int .i64 b0, .string ByteArray.empty, .bool false, .int .i64 0], .bool true], .agg #[.int .i64 b0, .string ByteArray.empty, .bool false, .int .i64 0, .int .i64 b0, .string ByteArray.empty, .bool false, .int .i64 0], .bool true, .tuple #[.agg #[.int .i64 b0, .string ByteArray.empty, .bool false, .int .i64 0, .int .i64 b0, .string ByteArray.empty, .bool false, .int .i64 0], .bool true], .int .i64 b0, .tuple #[.agg #[.int .i64 b0, .string ByteArray.empty, .bool false, .int .i64 0, .int .i64 b0, .string ByteArray.empty, .bool false, .int .i64 0], .bool true], .agg #[.int .i64 b0, .string ByteArray.empty, .bool false, .int .i64 0, .int .i64 b0, .string ByteArray.empty, .bool false, .int .i64 0], .bool true, .agg #[.int .i64 b0, .string ByteArray.empty, .bool false, .int .i64 0, .int .i64 b0, .string ByteArray.empty, .bool false, .int .i64 0], .agg #[.int .i64 b0, .string ByteArray.empty, .bool false, .int .i64 0, .int .i64 b0, .string ByteArray.empty, .bool false, .int .i64 0], .bool true, undef, undef, undef, undef, undef, undef], defers := [] }) (by kernel_rfl) ?_
    refine step_val (w' := qw17) rfl (.bool false) (by kernel_rfl) ?_
    refine wpList_frame (a' := { tmps := #[.int .i64 b0, undef, .bool false, .pointer (some ⟨qw1.heap.size, 0, none⟩), .bool true, .pointer (some ⟨qw9.heap.size, 0, none⟩), .bool true, .tuple #[.agg #[.int .i64 b0, .string ByteArray.empty, .bool false, .int .i64 0, .int .i64 b0, .string ByteArray.empty, .bool false, .int .i64 0], .bool true], .int .i64 b0, .tuple #[.agg #[.int .i64 b0, .string ByteArray.empty, .bool false, .int .i64 0, .int .i64 b0, .string ByteArray.empty, .bool false, .int .i64 0], .bool true], .agg #[.int .i64 b0, .string ByteArray.empty, .bool false, .int .i64 0, .int .i64 b0, .string ByteArray.empty, .bool false, .int .i64 0], .bool true, .tuple #[.agg #[.int .i64 b0, .string ByteArray.empty, .bool false, .int .i64 0, .int .i64 b0, .string ByteArray.empty, .bool false, .int .i64 0], .bool true], .int .i64 b0, .tuple #[.agg #[.int .i64 b0, .string ByteArray.empty, .bool false, .int .i64 0, .int .i64 b0, .string ByteArray.empty, .bool false, .int .i64 0], .bool true], .agg #[.int .i64 b0, .string ByteArray.empty, .bool false, .int .i64 0, .int .i64 b0, .string ByteArray.empty, .bool false, .int .i64 0], .bool true, .agg #[.int .i64 b0, .string ByteArray.empty, .bool false, .int .i64 0, .int .i64 b0, .string ByteArray.empty, .bool false, .int .i64 0], .agg #[.int .i64 b0, .string ByteArray.empty, .bool false, .int .i64 0, .int .i64 b0, .string ByteArray.empty, .bool false, .int .i64 0], .bool true, .bool false, undef, undef, undef, undef, undef], defers := [] }) (by kernel_rfl) ?_
    refine move_step rfl _ rfl ?_
    refine wpList_frame (a' := { tmps := #[.int .i64 b0, undef, .bool false, .pointer (some ⟨qw1.heap.size, 0, none⟩), .bool true, .pointer (some ⟨qw9.heap.size, 0, none⟩), .bool true, .tuple #[.agg #[.int .i64 b0, .string ByteArray.empty, .bool false, .int .i64 0, .int .i64 b0, .string ByteArray.empty, .bool false, .int .i64 0], .bool true], .int .i64 b0, .tuple #[.agg #[.int .i64 b0, .string ByteArray.empty, .bool false, .int .i64 0, .int .i64 b0, .string ByteArray.empty, .bool false, .int .i64 0], .bool true], .agg #[.int .i64 b0, .string ByteArray.empty, .bool false, .int .i64 0, .int .i64 b0, .string ByteArray.empty, .bool false, .int .i64 0], .bool true, .tuple #[.agg #[.int .i64 b0, .string ByteArray.empty, .bool false, .int .i64 0, .int .i64 b0, .string ByteArray.empty, .bool false, .int .i64 0], .bool true], .int .i64 b0, .tuple #[.agg #[.int .i64 b0, .string ByteArray.empty, .bool false, .int .i64 0, .int .i64 b0, .string ByteArray.empty, .bool false, .int .i64 0], .bool true], .agg #[.int .i64 b0, .string ByteArray.empty, .bool false, .int .i64 0, .int .i64 b0, .string ByteArray.empty, .bool false, .int .i64 0], .bool true, .agg #[.int .i64 b0, .string ByteArray.empty, .bool false, .int .i64 0, .int .i64 b0, .string ByteArray.empty, .bool false, .int .i64 0], .agg #[.int .i64 b0, .string ByteArray.empty, .bool false, .int .i64 0, .int .i64 b0, .string ByteArray.empty, .bool false, .int .i64 0], .bool true, .bool false, .bool false, undef, undef, undef, undef], defers := [] }) (by kernel_rfl) ?_
    refine want_val (w' := qw17) (by kernel_rfl) (.bool true) (by kernel_rfl) ?_
    refine wpList_frame (a' := { tmps := #[.int .i64 b0, undef, .bool false, .pointer (some ⟨qw1.heap.size, 0, none⟩), .bool true, .pointer (some ⟨qw9.heap.size, 0, none⟩), .bool true, .tuple #[.agg #[.int .i64 b0, .string ByteArray.empty, .bool false, .int .i64 0, .int .i64 b0, .string ByteArray.empty, .bool false, .int .i64 0], .bool true], .int .i64 b0, .tuple #[.agg #[.int .i64 b0, .string ByteArray.empty, .bool false, .int .i64 0, .int .i64 b0, .string ByteArray.empty, .bool false, .int .i64 0], .bool true], .agg #[.int .i64 b0, .string ByteArray.empty, .bool false, .int .i64 0, .int .i64 b0, .string ByteArray.empty, .bool false, .int .i64 0], .bool true, .tuple #[.agg #[.int .i64 b0, .string ByteArray.empty, .bool false, .int .i64 0, .int .i64 b0, .string ByteArray.empty, .bool false, .int .i64 0], .bool true], .int .i64 b0, .tuple #[.agg #[.int .i64 b0, .string ByteArray.empty, .bool false, .int .i64 0, .int .i64 b0, .string ByteArray.empty, .bool false, .int .i64 0], .bool true], .agg #[.int .i64 b0, .string ByteArray.empty, .bool false, .int .i64 0, .int .i64 b0, .string ByteArray.empty, .bool false, .int .i64 0], .bool true, .agg #[.int .i64 b0, .string ByteArray.empty, .bool false, .int .i64 0, .int .i64 b0, .string ByteArray.empty, .bool false, .int .i64 0], .agg #[.int .i64 b0, .string ByteArray.empty, .bool false, .int .i64 0, .int .i64 b0, .string ByteArray.empty, .bool false, .int .i64 0], .bool true, .bool false, .bool false, .bool true, undef, undef, undef], defers := [] }) (by kernel_rfl) ?_
    refine want_val (w' := qw17) (by kernel_rfl) (.bool true) (by kernel_rfl) ?_
    refine wpList_frame (a' := { tmps := #[.int .i64 b0, undef, .bool false, .pointer (some ⟨qw1.heap.size, 0, none⟩), .bool true, .pointer (some ⟨qw9.heap.size, 0, none⟩), .bool true, .tuple #[.agg #[.int .i64 b0, .string ByteArray.empty, .bool false, .int .i64 0, .int .i64 b0, .string ByteArray.empty, .bool false, .int .i64 0], .bool true], .int .i64 b0, .tuple #[.agg #[.int .i64 b0, .string ByteArray.empty, .bool false, .int .i64 0, .int .i64 b0, .string ByteArray.empty, .bool false, .int .i64 0], .bool true], .agg #[.int .i64 b0, .string ByteArray.empty, .bool false, .int .i64 0, .int .i64 b0, .string ByteArray.empty, .bool false, .int .i64 0], .bool true, .tuple #[.agg #[.int .i64 b0, .string ByteArray.empty, .bool false, .int .i64 0, .int .i64 b0, .string ByteArray.empty, .bool false, .int .i64 0], .bool true], .int .i64 b0, .tuple #[.agg #[.int .i64 b0, .string ByteArray.empty, .bool false, .int .i64 0, .int .i64 b0, .string ByteArray.empty, .bool false, .int .i64 0], .bool true], .agg #[.int .i64 b0, .string ByteArray.empty, .bool false, .int .i64 0, .int .i64 b0, .string ByteArray.empty, .bool false, .int .i64 0], .bool true, .agg #[.int .i64 b0, .string ByteArray.empty, .bool false, .int .i64 0, .int .i64 b0, .string ByteArray.empty, .bool false, .int .i64 0], .agg #[.int .i64 b0, .string ByteArray.empty, .bool false, .int .i64 0, .int .i64 b0, .string ByteArray.empty, .bool false, .int .i64 0], .bool true, .bool false, .bool false, .bool true, .bool true, undef, undef], defers := [] }) (by kernel_rfl) ?_
    refine want_val (w' := qw17) (by kernel_rfl) (.bool false) (by kernel_rfl) ?_
    refine wpList_frame (a' := { tmps := #[.int .i64 b0, undef, .bool false, .pointer (some ⟨qw1.heap.size, 0, none⟩), .bool true, .pointer (some ⟨qw9.heap.size, 0, none⟩), .bool true, .tuple #[.agg #[.int .i64 b0, .string ByteArray.empty, .bool false, .int .i64 0, .int .i64 b0, .string ByteArray.empty, .bool false, .int .i64 0], .bool true], .int .i64 b0, .tuple #[.agg #[.int .i64 b0, .string ByteArray.empty, .bool false, .int .i64 0, .int .i64 b0, .string ByteArray.empty, .bool false, .int .i64 0], .bool true], .agg #[.int .i64 b0, .string ByteArray.empty, .bool false, .int .i64 0, .int .i64 b0, .string ByteArray.empty, .bool false, .int .i64 0], .bool true, .tuple #[.agg #[.int .i64 b0, .string ByteArray.empty, .bool false, .int .i64 0, .int .i64 b0, .string ByteArray.empty, .bool false, .int .i64 0], .bool true], .int .i64 b0, .tuple #[.agg #[.int .i64 b0, .string ByteArray.empty, .bool false, .int .i64 0, .int .i64 b0, .string ByteArray.empty, .bool false, .int .i64 0], .bool true], .agg #[.int .i64 b0, .string ByteArray.empty, .bool false, .int .i64 0, .int .i64 b0, .string ByteArray.empty, .bool false, .int .i64 0], .bool true, .agg #[.int .i64 b0, .string ByteArray.empty, .bool false, .int .i64 0, .int .i64 b0, .string ByteArray.empty, .bool false, .int .i64 0], .agg #[.int .i64 b0, .string ByteArray.empty, .bool false, .int .i64 0, .int .i64 b0, .string ByteArray.empty, .bool false, .int .i64 0], .bool true, .bool false, .bool false, .bool true, .bool true, .bool false, undef], defers := [] }) (by kernel_rfl) ?_
    refine step_val (w' := qw17) rfl (.bool false) (by kernel_rfl) ?_
    refine wpList_frame (a' := { tmps := #[.int .i64 b0, undef, .bool false, .pointer (some ⟨qw1.heap.size, 0, none⟩), .bool true, .pointer (some ⟨qw9.heap.size, 0, none⟩), .bool true, .tuple #[.agg #[.int .i64 b0, .string ByteArray.empty, .bool false, .int .i64 0, .int .i64 b0, .string ByteArray.empty, .bool false, .int .i64 0], .bool true], .int .i64 b0, .tuple #[.agg #[.int .i64 b0, .string ByteArray.empty, .bool false, .int .i64 0, .int .i64 b0, .string ByteArray.empty, .bool false, .int .i64 0], .bool true], .agg #[.int .i64 b0, .string ByteArray.empty, .bool false, .int .i64 0, .int .i64 b0, .string ByteArray.empty, .bool false, .int .i64 0], .bool true, .tuple #[.agg #[.int .i64 b0, .string ByteArray.empty, .bool false, .int .i64 0, .int .i64 b0, .string ByteArray.empty, .bool false, .int .i64 0], .bool true], .int .i64 b0, .tuple #[.agg #[.int .i64 b0, .string ByteArray.empty, .bool false, .int .i64 0, .int .i64 b0, .string ByteArray.empty, .bool false, .int .i64 0], .bool true], .agg #[.int .i64 b0, .string ByteArray.empty, .bool false, .int .i64 0, .int .i64 b0, .string ByteArray.empty, .bool false, .int .i64 0], .bool true, .agg #[.int .i64 b0, .string ByteArray.empty, .bool false, .int .i64 0, .int .i64 b0, .string ByteArray.empty, .bool false, .int .i64 0], .agg #[.int .i64 b0, .string ByteArray.empty, .bool false, .int .i64 0, .int .i64 b0, .string ByteArray.empty, .bool false, .int .i64 0], .bool true, .bool false, .bool false, .bool true, .bool true, .bool false, .bool false], defers := [] }) (by kernel_rfl) ?_
    go_wp2_with (fail)
    go_ret
    exact ⟨rfl, G⟩
  case neg =>
    have hs := fun wx => specRStart b0 wx
    have hi := fun wx => implRStart b0 wx
    have he := fun wx => eqRelay 0 ByteArray.empty false 0 0 ByteArray.empty false 0 wx
    unfold rlVal at he
    unfold startV at hs hi
    rw [if_neg h] at hs hi
    clear h
    have G := Since.refl w
    go_enter Try.func4, Try.ntmps4
    go_upto_region 1 with (fail)
    refine wp_region_lit ?_
    refine move_step rfl _ rfl ?_
    refine call_step rfl 10 #[.int .i64 b0] (by kernel_rfl) (hs _) ?_
    rintro _ qw1 ⟨rfl, qg2⟩
    refine ⟨_, rfl, ?_⟩
    replace G := G.trans qg2
    have qg2_s := qg2.size
    refine move_step rfl _ rfl ?_
    refine step_val (w' := qw1) rfl (.agg #[.int .i64 0, .string ByteArray.empty, .bool false, .int .i64 0, .int .i64 0, .string ByteArray.empty, .bool false, .int .i64 0]) (by kernel_rfl) ?_
    refine wpList_frame (a' := { tmps := #[.int .i64 b0, undef, .bool false, undef, undef, undef, undef, .tuple #[.agg #[.int .i64 0, .string ByteArray.empty, .bool false, .int .i64 0, .int .i64 0, .string ByteArray.empty, .bool false, .int .i64 0], .bool false], .int .i64 b0, .tuple #[.agg #[.int .i64 0, .string ByteArray.empty, .bool false, .int .i64 0, .int .i64 0, .string ByteArray.empty, .bool false, .int .i64 0], .bool false], .agg #[.int .i64 0, .string ByteArray.empty, .bool false, .int .i64 0, .int .i64 0, .string ByteArray.empty, .bool false, .int .i64 0], undef, undef, undef, undef, undef, undef, undef, undef, undef, undef, undef, undef, undef, undef, undef], defers := [] }) (by kernel_rfl) ?_
    refine step_val (w' := qw1) rfl (.bool false) (by kernel_rfl) ?_
    refine step_val (w' := qw1.alloc (.cells (#[.int .i64 0, .string ByteArray.empty, .bool false, .int .i64 0, .int .i64 0, .string ByteArray.empty, .bool false, .int .i64 0]) 30)) rfl (.pointer (some ⟨qw1.heap.size, 0, none⟩)) (by kernel_rfl) ?_
    have qB4 := Blk.new qw1 (#[.int .i64 0, .string ByteArray.empty, .bool false, .int .i64 0, .int .i64 0, .string ByteArray.empty, .bool false, .int .i64 0]) 30
    have qg5 := (Since.refl qw1).alloc (.cells (#[.int .i64 0, .string ByteArray.empty, .bool false, .int .i64 0, .int .i64 0, .string ByteArray.empty, .bool false, .int .i64 0]) 30)
    replace G := G.trans qg5
    generalize qw1.alloc (.cells (#[.int .i64 0, .string ByteArray.empty, .bool false, .int .i64 0, .int .i64 0, .string ByteArray.empty, .bool false, .int .i64 0]) 30) = qw3 at  G qB4 qg5 ⊢
    have qB4_l := qB4.lt
    have qg5_s := qg5.size
    refine store_big rl_big rfl rfl (by simp [Value.oneCell']) qB4 rfl _ _ rfl rfl rfl ?_
    intro qw6 qt7 qB8
    clear qB4
    replace G := since_touch G qt7 (by omega)
    have qt7_s := qt7.size
    refine step_val (w' := qw6) rfl (.bool false) (by kernel_rfl) ?_
    refine wpList_frame (a' := { tmps := #[.int .i64 b0, undef, .bool false, .pointer (some ⟨qw1.heap.size, 0, none⟩), .bool false, undef, undef, .tuple #[.agg #[.int .i64 0, .string ByteArray.empty, .bool false, .int .i64 0, .int .i64 0, .string ByteArray.empty, .bool false, .int .i64 0], .bool false], .int .i64 b0, .tuple #[.agg #[.int .i64 0, .string ByteArray.empty, .bool false, .int .i64 0, .int .i64 0, .string ByteArray.empty, .bool false, .int .i64 0], .bool false], .agg #[.int .i64 0, .string ByteArray.empty, .bool false, .int .i64 0, .int .i64 0, .string ByteArray.empty, .bool false, .int .i64 0], .bool false, undef, undef, undef, undef, undef, undef, undef, undef, undef, undef, undef, undef, undef, undef], defers := [] }) (by kernel_rfl) ?_
    go_upto_region 2 with (fail)
    refine wp_region_lit ?_
    refine move_step rfl _ rfl ?_
    refine call_step rfl 11 #[.int .i64 b0] (by kernel_rfl) (hi _) ?_
    rintro _ qw9 ⟨rfl, qg10⟩
    refine ⟨_, rfl, ?_⟩
    replace qB8 := qB8.since qg10
    replace G := G.trans qg10
    have qg10_s := qg10.size
    refine move_step rfl _ rfl ?_
    refine step_val (w' := qw9) rfl (.agg #[.int .i64 0, .string ByteArray.empty, .bool false, .int .i64 0, .int .i64 0, .string ByteArray.empty, .bool false, .int .i64 0]) (by kernel_rfl) ?_
    refine wpList_frame (a' := { tmps := #[.int .i64 b0, undef, .bool false, .pointer (some ⟨qw1.heap.size, 0, none⟩), .bool false, undef, undef, .tuple #[.agg #[.int .i64 0, .string ByteArray.empty, .bool false, .int .i64 0, .int .i64 0, .string ByteArray.empty, .bool false, .int .i64 0], .bool false], .int .i64 b0, .tuple #[.agg #[.int .i64 0, .string ByteArray.empty, .bool false, .int .i64 0, .int .i64 0, .string ByteArray.empty, .bool false, .int .i64 0], .bool false], .agg #[.int .i64 0, .string ByteArray.empty, .bool false, .int .i64 0, .int .i64 0, .string ByteArray.empty, .bool false, .int .i64 0], .bool false, .tuple #[.agg #[.int .i64 0, .string ByteArray.empty, .bool false, .int .i64 0, .int .i64 0, .string ByteArray.empty, .bool false, .int .i64 0], .bool false], .int .i64 b0, .tuple #[.agg #[.int .i64 0, .string ByteArray.empty, .bool false, .int .i64 0, .int .i64 0, .string ByteArray.empty, .bool false, .int .i64 0], .bool false], .agg #[.int .i64 0, .string ByteArray.empty, .bool false, .int .i64 0, .int .i64 0, .string ByteArray.empty, .bool false, .int .i64 0], undef, undef, undef, undef, undef, undef, undef, undef, undef, undef], defers := [] }) (by kernel_rfl) ?_
    refine step_val (w' := qw9) rfl (.bool false) (by kernel_rfl) ?_
    refine step_val (w' := qw9.alloc (.cells (#[.int .i64 0, .string ByteArray.empty, .bool false, .int .i64 0, .int .i64 0, .string ByteArray.empty, .bool false, .int .i64 0]) 30)) rfl (.pointer (some ⟨qw9.heap.size, 0, none⟩)) (by kernel_rfl) ?_
    have qB12 := Blk.new qw9 (#[.int .i64 0, .string ByteArray.empty, .bool false, .int .i64 0, .int .i64 0, .string ByteArray.empty, .bool false, .int .i64 0]) 30
    have qg13 := (Since.refl qw9).alloc (.cells (#[.int .i64 0, .string ByteArray.empty, .bool false, .int .i64 0, .int .i64 0, .string ByteArray.empty, .bool false, .int .i64 0]) 30)
    replace qB8 := qB8.since qg13
    replace G := G.trans qg13
    generalize qw9.alloc (.cells (#[.int .i64 0, .string ByteArray.empty, .bool false, .int .i64 0, .int .i64 0, .string ByteArray.empty, .bool false, .int .i64 0]) 30) = qw11 at qB8 G qB12 qg13 ⊢
    have qB12_l := qB12.lt
    have qg13_s := qg13.size
    refine store_big rl_big rfl rfl (by simp [Value.oneCell']) qB12 rfl _ _ rfl rfl rfl ?_
    intro qw14 qt15 qB16
    clear qB12
    replace qB8 := qB8.touch qt15 (by omega)
    replace G := since_touch G qt15 (by omega)
    have qt15_s := qt15.size
    refine step_val (w' := qw14) rfl (.bool false) (by kernel_rfl) ?_
    refine wpList_frame (a' := { tmps := #[.int .i64 b0, undef, .bool false, .pointer (some ⟨qw1.heap.size, 0, none⟩), .bool false, .pointer (some ⟨qw9.heap.size, 0, none⟩), .bool false, .tuple #[.agg #[.int .i64 0, .string ByteArray.empty, .bool false, .int .i64 0, .int .i64 0, .string ByteArray.empty, .bool false, .int .i64 0], .bool false], .int .i64 b0, .tuple #[.agg #[.int .i64 0, .string ByteArray.empty, .bool false, .int .i64 0, .int .i64 0, .string ByteArray.empty, .bool false, .int .i64 0], .bool false], .agg #[.int .i64 0, .string ByteArray.empty, .bool false, .int .i64 0, .int .i64 0, .string ByteArray.empty, .bool false, .int .i64 0], .bool false, .tuple #[.agg #[.int .i64 0, .string ByteArray.empty, .bool false, .int .i64 0, .int .i64 0, .string ByteArray.empty, .bool false, .int .i64 0], .bool false], .int .i64 b0, .tuple #[.agg #[.int .i64 0, .string ByteArray.empty, .bool false, .int .i64 0, .int .i64 0, .string ByteArray.empty, .bool false, .int .i64 0], .bool false], .agg #[.int .i64 0, .string ByteArray.empty, .bool false, .int .i64 0, .int .i64 0, .string ByteArray.empty, .bool false, .int .i64 0], .bool false, undef, undef, undef, undef, undef, undef, undef, undef, undef], defers := [] }) (by kernel_rfl) ?_
    go_upto_region 3 with (fail)
    refine wp_region_lit ?_
    refine load_big rl_big rfl qB16 rfl _ rfl rfl ?_
    refine wpList_frame (a' := { tmps := #[.int .i64 b0, undef, .bool false, .pointer (some ⟨qw1.heap.size, 0, none⟩), .bool false, .pointer (some ⟨qw9.heap.size, 0, none⟩), .bool false, .tuple #[.agg #[.int .i64 0, .string ByteArray.empty, .bool false, .int .i64 0, .int .i64 0, .string ByteArray.empty, .bool false, .int .i64 0], .bool false], .int .i64 b0, .tuple #[.agg #[.int .i64 0, .string ByteArray.empty, .bool false, .int .i64 0, .int .i64 0, .string ByteArray.empty, .bool false, .int .i64 0], .bool false], .agg #[.int .i64 0, .string ByteArray.empty, .bool false, .int .i64 0, .int .i64 0, .string ByteArray.empty, .bool false, .int .i64 0], .bool false, .tuple #[.agg #[.int .i64 0, .string ByteArray.empty, .bool false, .int .i64 0, .int .i64 0, .string ByteArray.empty, .bool false, .int .i64 0], .bool false], .int .i64 b0, .tuple #[.agg #[.int .i64 0, .string ByteArray.empty, .bool false, .int .i64 0, .int .i64 0, .string ByteArray.empty, .bool false, .int .i64 0], .bool false], .agg #[.int .i64 0, .string ByteArray.empty, .bool false, .int .i64 0, .int .i64 0, .string ByteArray.empty, .bool false, .int .i64 0], .bool false, .agg #[.int .i64 0, .string ByteArray.empty, .bool false, .int .i64 0, .int .i64 0, .string ByteArray.empty, .bool false, .int .i64 0], undef, undef, undef, undef, undef, undef, undef, undef], defers := [] }) (by kernel_rfl) ?_
    refine load_big rl_big rfl qB8 rfl _ rfl rfl ?_
    refine wpList_frame (a' := { tmps := #[.int .i64 b0, undef, .bool false, .pointer (some ⟨qw1.heap.size, 0, none⟩), .bool false, .pointer (some ⟨qw9.heap.size, 0, none⟩), .bool false, .tuple #[.agg #[.int .i64 0, .string ByteArray.empty, .bool false, .int .i64 0, .int .i64 0, .string ByteArray.empty, .bool false, .int .i64 0], .bool false], .int .i64 b0, .tuple #[.agg #[.int .i64 0, .string ByteArray.empty, .bool false, .int .i64 0, .int .i64 0, .string ByteArray.empty, .bool false, .int .i64 0], .bool false], .agg #[.int .i64 0, .string ByteArray.empty, .bool false, .int .i64 0, .int .i64 0, .string ByteArray.empty, .bool false, .int .i64 0], .bool false, .tuple #[.agg #[.int .i64 0, .string ByteArray.empty, .bool false, .int .i64 0, .int .i64 0, .string ByteArray.empty, .bool false, .int .i64 0], .bool false], .int .i64 b0, .tuple #[.agg #[.int .i64 0, .string ByteArray.empty, .bool false, .int .i64 0, .int .i64 0, .string ByteArray.empty, .bool false, .int .i64 0], .bool false], .agg #[.int .i64 0, .string ByteArray.empty, .bool false, .int .i64 0, .int .i64 0, .string ByteArray.empty, .bool false, .int .i64 0], .bool false, .agg #[.int .i64 0, .string ByteArray.empty, .bool false, .int .i64 0, .int .i64 0, .string ByteArray.empty, .bool false, .int .i64 0], .agg #[.int .i64 0, .string ByteArray.empty, .bool false, .int .i64 0, .int .i64 0, .string ByteArray.empty, .bool false, .int .i64 0], undef, undef, undef, undef, undef, undef, undef], defers := [] }) (by kernel_rfl) ?_
    refine call_step rfl 12 #[.agg #[.int .i64 0, .string ByteArray.empty, .bool false, .int .i64 0, .int .i64 0, .string ByteArray.empty, .bool false, .int .i64 0], .agg #[.int .i64 0, .string ByteArray.empty, .bool false, .int .i64 0, .int .i64 0, .string ByteArray.empty, .bool false, .int .i64 0]] (by kernel_rfl) (he _) ?_
    rintro _ qw17 ⟨rfl, qg18⟩
    refine ⟨_, rfl, ?_⟩
    replace qB8 := qB8.since qg18
    replace qB16 := qB16.since qg18
    replace G := G.trans qg18
    have qg18_s := qg18.size
    refine wpList_frame (a' := { tmps := #[.int .i64 b0, undef, .bool false, .pointer (some ⟨qw1.heap.size, 0, none⟩), .bool false, .pointer (some ⟨qw9.heap.size, 0, none⟩), .bool false, .tuple #[.agg #[.int .i64 0, .string ByteArray.empty, .bool false, .int .i64 0, .int .i64 0, .string ByteArray.empty, .bool false, .int .i64 0], .bool false], .int .i64 b0, .tuple #[.agg #[.int .i64 0, .string ByteArray.empty, .bool false, .int .i64 0, .int .i64 0, .string ByteArray.empty, .bool false, .int .i64 0], .bool false], .agg #[.int .i64 0, .string ByteArray.empty, .bool false, .int .i64 0, .int .i64 0, .string ByteArray.empty, .bool false, .int .i64 0], .bool false, .tuple #[.agg #[.int .i64 0, .string ByteArray.empty, .bool false, .int .i64 0, .int .i64 0, .string ByteArray.empty, .bool false, .int .i64 0], .bool false], .int .i64 b0, .tuple #[.agg #[.int .i64 0, .string ByteArray.empty, .bool false, .int .i64 0, .int .i64 0, .string ByteArray.empty, .bool false, .int .i64 0], .bool false], .agg #[.int .i64 0, .string ByteArray.empty, .bool false, .int .i64 0, .int .i64 0, .string ByteArray.empty, .bool false, .int .i64 0], .bool false, .agg #[.int .i64 0, .string ByteArray.empty, .bool false, .int .i64 0, .int .i64 0, .string ByteArray.empty, .bool false, .int .i64 0], .agg #[.int .i64 0, .string ByteArray.empty, .bool false, .int .i64 0, .int .i64 0, .string ByteArray.empty, .bool false, .int .i64 0], .bool true, undef, undef, undef, undef, undef, undef], defers := [] }) (by kernel_rfl) ?_
    refine step_val (w' := qw17) rfl (.bool false) (by kernel_rfl) ?_
    refine wpList_frame (a' := { tmps := #[.int .i64 b0, undef, .bool false, .pointer (some ⟨qw1.heap.size, 0, none⟩), .bool false, .pointer (some ⟨qw9.heap.size, 0, none⟩), .bool false, .tuple #[.agg #[.int .i64 0, .string ByteArray.empty, .bool false, .int .i64 0, .int .i64 0, .string ByteArray.empty, .bool false, .int .i64 0], .bool false], .int .i64 b0, .tuple #[.agg #[.int .i64 0, .string ByteArray.empty, .bool false, .int .i64 0, .int .i64 0, .string ByteArray.empty, .bool false, .int .i64 0], .bool false], .agg #[.int .i64 0, .string ByteArray.empty, .bool false, .int .i64 0, .int .i64 0, .string ByteArray.empty, .bool false, .int .i64 0], .bool false, .tuple #[.agg #[.int .i64 0, .string ByteArray.empty, .bool false, .int .i64 0, .int .i64 0, .string ByteArray.empty, .bool false, .int .i64 0], .bool false], .int .i64 b0, .tuple #[.agg #[.int .i64 0, .string ByteArray.empty, .bool false, .int .i64 0, .int .i64 0, .string ByteArray.empty, .bool false, .int .i64 0], .bool false], .agg #[.int .i64 0, .string ByteArray.empty, .bool false, .int .i64 0, .int .i64 0, .string ByteArray.empty, .bool false, .int .i64 0], .bool false, .agg #[.int .i64 0, .string ByteArray.empty, .bool false, .int .i64 0, .int .i64 0, .string ByteArray.empty, .bool false, .int .i64 0], .agg #[.int .i64 0, .string ByteArray.empty, .bool false, .int .i64 0, .int .i64 0, .string ByteArray.empty, .bool false, .int .i64 0], .bool true, .bool false, undef, undef, undef, undef, undef], defers := [] }) (by kernel_rfl) ?_
    refine move_step rfl _ rfl ?_
    refine wpList_frame (a' := { tmps := #[.int .i64 b0, undef, .bool false, .pointer (some ⟨qw1.heap.size, 0, none⟩), .bool false, .pointer (some ⟨qw9.heap.size, 0, none⟩), .bool false, .tuple #[.agg #[.int .i64 0, .string ByteArray.empty, .bool false, .int .i64 0, .int .i64 0, .string ByteArray.empty, .bool false, .int .i64 0], .bool false], .int .i64 b0, .tuple #[.agg #[.int .i64 0, .string ByteArray.empty, .bool false, .int .i64 0, .int .i64 0, .string ByteArray.empty, .bool false, .int .i64 0], .bool false], .agg #[.int .i64 0, .string ByteArray.empty, .bool false, .int .i64 0, .int .i64 0, .string ByteArray.empty, .bool false, .int .i64 0], .bool false, .tuple #[.agg #[.int .i64 0, .string ByteArray.empty, .bool false, .int .i64 0, .int .i64 0, .string ByteArray.empty, .bool false, .int .i64 0], .bool false], .int .i64 b0, .tuple #[.agg #[.int .i64 0, .string ByteArray.empty, .bool false, .int .i64 0, .int .i64 0, .string ByteArray.empty, .bool false, .int .i64 0], .bool false], .agg #[.int .i64 0, .string ByteArray.empty, .bool false, .int .i64 0, .int .i64 0, .string ByteArray.empty, .bool false, .int .i64 0], .bool false, .agg #[.int .i64 0, .string ByteArray.empty, .bool false, .int .i64 0, .int .i64 0, .string ByteArray.empty, .bool false, .int .i64 0], .agg #[.int .i64 0, .string ByteArray.empty, .bool false, .int .i64 0, .int .i64 0, .string ByteArray.empty, .bool false, .int .i64 0], .bool true, .bool false, .bool false, undef, undef, undef, undef], defers := [] }) (by kernel_rfl) ?_
    refine want_val (w' := qw17) (by kernel_rfl) (.bool false) (by kernel_rfl) ?_
    refine wpList_frame (a' := { tmps := #[.int .i64 b0, undef, .bool false, .pointer (some ⟨qw1.heap.size, 0, none⟩), .bool false, .pointer (some ⟨qw9.heap.size, 0, none⟩), .bool false, .tuple #[.agg #[.int .i64 0, .string ByteArray.empty, .bool false, .int .i64 0, .int .i64 0, .string ByteArray.empty, .bool false, .int .i64 0], .bool false], .int .i64 b0, .tuple #[.agg #[.int .i64 0, .string ByteArray.empty, .bool false, .int .i64 0, .int .i64 0, .string ByteArray.empty, .bool false, .int .i64 0], .bool false], .agg #[.int .i64 0, .string ByteArray.empty, .bool false, .int .i64 0, .int .i64 0, .string ByteArray.empty, .bool false, .int .i64 0], .bool false, .tuple #[.agg #[.int .i64 0, .string ByteArray.empty, .bool false, .int .i64 0, .int .i64 0, .string ByteArray.empty, .bool false, .int .i64 0], .bool false], .int .i64 b0, .tuple #[.agg #[.int .i64 0, .string ByteArray.empty, .bool false, .int .i64 0, .int .i64 0, .string ByteArray.empty, .bool false, .int .i64 0], .bool false], .agg #[.int .i64 0, .string ByteArray.empty, .bool false, .int .i64 0, .int .i64 0, .string ByteArray.empty, .bool false, .int .i64 0], .bool false, .agg #[.int .i64 0, .string ByteArray.empty, .bool false, .int .i64 0, .int .i64 0, .string ByteArray.empty, .bool false, .int .i64 0], .agg #[.int .i64 0, .string ByteArray.empty, .bool false, .int .i64 0, .int .i64 0, .string ByteArray.empty, .bool false, .int .i64 0], .bool true, .bool false, .bool false, .bool false, undef, undef, undef], defers := [] }) (by kernel_rfl) ?_
    refine want_val (w' := qw17) (by kernel_rfl) (.bool false) (by kernel_rfl) ?_
    refine wpList_frame (a' := { tmps := #[.int .i64 b0, undef, .bool false, .pointer (some ⟨qw1.heap.size, 0, none⟩), .bool false, .pointer (some ⟨qw9.heap.size, 0, none⟩), .bool false, .tuple #[.agg #[.int .i64 0, .string ByteArray.empty, .bool false, .int .i64 0, .int .i64 0, .string ByteArray.empty, .bool false, .int .i64 0], .bool false], .int .i64 b0, .tuple #[.agg #[.int .i64 0, .string ByteArray.empty, .bool false, .int .i64 0, .int .i64 0, .string ByteArray.empty, .bool false, .int .i64 0], .bool false], .agg #[.int .i64 0, .string ByteArray.empty, .bool false, .int .i64 0, .int .i64 0, .string ByteArray.empty, .bool false, .int .i64 0], .bool false, .tuple #[.agg #[.int .i64 0, .string ByteArray.empty, .bool false, .int .i64 0, .int .i64 0, .string ByteArray.empty, .bool false, .int .i64 0], .bool false], .int .i64 b0, .tuple #[.agg #[.int .i64 0, .string ByteArray.empty, .bool false, .int .i64 0, .int .i64 0, .string ByteArray.empty, .bool false, .int .i64 0], .bool false], .agg #[.int .i64 0, .string ByteArray.empty, .bool false, .int .i64 0, .int .i64 0, .string ByteArray.empty, .bool false, .int .i64 0], .bool false, .agg #[.int .i64 0, .string ByteArray.empty, .bool false, .int .i64 0, .int .i64 0, .string ByteArray.empty, .bool false, .int .i64 0], .agg #[.int .i64 0, .string ByteArray.empty, .bool false, .int .i64 0, .int .i64 0, .string ByteArray.empty, .bool false, .int .i64 0], .bool true, .bool false, .bool false, .bool false, .bool false, undef, undef], defers := [] }) (by kernel_rfl) ?_
    refine want_val (w' := qw17) (by kernel_rfl) (.bool false) (by kernel_rfl) ?_
    refine wpList_frame (a' := { tmps := #[.int .i64 b0, undef, .bool false, .pointer (some ⟨qw1.heap.size, 0, none⟩), .bool false, .pointer (some ⟨qw9.heap.size, 0, none⟩), .bool false, .tuple #[.agg #[.int .i64 0, .string ByteArray.empty, .bool false, .int .i64 0, .int .i64 0, .string ByteArray.empty, .bool false, .int .i64 0], .bool false], .int .i64 b0, .tuple #[.agg #[.int .i64 0, .string ByteArray.empty, .bool false, .int .i64 0, .int .i64 0, .string ByteArray.empty, .bool false, .int .i64 0], .bool false], .agg #[.int .i64 0, .string ByteArray.empty, .bool false, .int .i64 0, .int .i64 0, .string ByteArray.empty, .bool false, .int .i64 0], .bool false, .tuple #[.agg #[.int .i64 0, .string ByteArray.empty, .bool false, .int .i64 0, .int .i64 0, .string ByteArray.empty, .bool false, .int .i64 0], .bool false], .int .i64 b0, .tuple #[.agg #[.int .i64 0, .string ByteArray.empty, .bool false, .int .i64 0, .int .i64 0, .string ByteArray.empty, .bool false, .int .i64 0], .bool false], .agg #[.int .i64 0, .string ByteArray.empty, .bool false, .int .i64 0, .int .i64 0, .string ByteArray.empty, .bool false, .int .i64 0], .bool false, .agg #[.int .i64 0, .string ByteArray.empty, .bool false, .int .i64 0, .int .i64 0, .string ByteArray.empty, .bool false, .int .i64 0], .agg #[.int .i64 0, .string ByteArray.empty, .bool false, .int .i64 0, .int .i64 0, .string ByteArray.empty, .bool false, .int .i64 0], .bool true, .bool false, .bool false, .bool false, .bool false, .bool false, undef], defers := [] }) (by kernel_rfl) ?_
    refine step_val (w' := qw17) rfl (.bool false) (by kernel_rfl) ?_
    refine wpList_frame (a' := { tmps := #[.int .i64 b0, undef, .bool false, .pointer (some ⟨qw1.heap.size, 0, none⟩), .bool false, .pointer (some ⟨qw9.heap.size, 0, none⟩), .bool false, .tuple #[.agg #[.int .i64 0, .string ByteArray.empty, .bool false, .int .i64 0, .int .i64 0, .string ByteArray.empty, .bool false, .int .i64 0], .bool false], .int .i64 b0, .tuple #[.agg #[.int .i64 0, .string ByteArray.empty, .bool false, .int .i64 0, .int .i64 0, .string ByteArray.empty, .bool false, .int .i64 0], .bool false], .agg #[.int .i64 0, .string ByteArray.empty, .bool false, .int .i64 0, .int .i64 0, .string ByteArray.empty, .bool false, .int .i64 0], .bool false, .tuple #[.agg #[.int .i64 0, .string ByteArray.empty, .bool false, .int .i64 0, .int .i64 0, .string ByteArray.empty, .bool false, .int .i64 0], .bool false], .int .i64 b0, .tuple #[.agg #[.int .i64 0, .string ByteArray.empty, .bool false, .int .i64 0, .int .i64 0, .string ByteArray.empty, .bool false, .int .i64 0], .bool false], .agg #[.int .i64 0, .string ByteArray.empty, .bool false, .int .i64 0, .int .i64 0, .string ByteArray.empty, .bool false, .int .i64 0], .bool false, .agg #[.int .i64 0, .string ByteArray.empty, .bool false, .int .i64 0, .int .i64 0, .string ByteArray.empty, .bool false, .int .i64 0], .agg #[.int .i64 0, .string ByteArray.empty, .bool false, .int .i64 0, .int .i64 0, .string ByteArray.empty, .bool false, .int .i64 0], .bool true, .bool false, .bool false, .bool false, .bool false, .bool false, .bool false], defers := [] }) (by kernel_rfl) ?_
    go_wp2_with (fail)
    go_ret
    exact ⟨rfl, G⟩

set_option maxRecDepth 100000 in
theorem lifted (os : Os) (started : os.Started) (H : Type) (enc : TypeId × Value → H) :
    ReturnsInHanded {} Try.checked os 4 .any (Rows.fnExactRelayStartSpec.pre6 enc Try.prog Try.f4 Rows.fnExactRelayStartRow.domain false) (Rows.fnExactRelayStartSpec.post enc Try.prog Try.f4 false true false false) := by
  refine returnsInHanded_of_change (C := Try.checked) own started (by kernel_rfl) Try.func4
    (ChangeSpec.witness6 (enc := enc) (C := Try.checked) false ⟨#[], #[.int .i64 0], []⟩ 8 (by kernel_rfl) (by kernel_rfl) (by kernel_rfl) (by kernel_rfl)) ?_
  intro W base args ds gs before hval0 hW hcnd _
  have hval : ∀ (j : Nat) t v, Try.f4.params[j]? = some t → args[j]? = some v → Value.okWide Try.prog W .any base t v := hval0
  have hW' := hW
  obtain ⟨p, q, hA0, hV, rfl, hfz, hnd⟩ := hW
  have hA : DataW.TrodAll enc Try.prog W 0 (fun _ => true) true Try.f4.params.toList args.toList ds p := hA0
  rw [Try.params4] at hA hval
  obtain ⟨v0, vs0, d0, ds0, p0, q0, hargs, rfl, rfl, h0, r0⟩ := trodAll_cons hA
  obtain ⟨rfl, rfl, rfl⟩ := trodAll_nil r0
  obtain rfl : args = #[v0] := by cases args; simp_all
  obtain ⟨rfl, rfl⟩ := trodVars_none hV
  have e0 := h0
  have lt0 : ∀ x ∈ p0, x.block < W.heap.size := by obtain ⟨m, hm⟩ := e0; exact DataW.trod_lt m _ _ _ hm
  obtain ⟨b0, rfl, _, _, x0⟩ := open_int Try.underlying3 (hval 0 3 v0 rfl rfl) h0
  clear hA0 hval0
  refine (walk b0 W x0).mono fun e W' ⟨he, bel⟩ => ?_
  subst he
  exact ⟨_, rfl, _, _, _, [], _, [], hW', trodAll_mk1 (shut_bool Try.underlying4 _), (trodAll_cons_mk (Below.trod laidOut (by kernel_rfl) (of_decide_eq_true (by kernel_rfl)) e0 bel lt0) trodAll_mk0), rfl, bel.frame _, fun h => by cases h⟩

theorem over : Rows.fnExactRelayStartRow.holds Try.pinned (OpenSpec.ofChange Rows.fnExactRelayStartSpec) :=
  OpenClaim.holds_of_wide 4 Try.f4 rfl rfl rfl rfl rfl rfl rfl ⟨rfl, rfl, rfl, rfl, rfl⟩ rfl rfl rfl rfl rfl (by kernel_rfl) Try.func4 (by kernel_rfl)
    (of_decide_eq_true (by kernel_rfl)) (by unfold Func.isWrapper; first | (rw [if_pos (by decide +kernel)]; kernel_rfl) | (rw [if_neg (by decide +kernel)]; exact ⟨rfl, rfl⟩))
    (fun os started H enc _ => lifted os started H enc)

theorem proved : Rows.FnExactRelayStartSaid := over
end Go.Proofs.Ytipaaddjpmlajaa.fnExactRelayStart

namespace Go.Proofs.Ytipaaddjpmlajaa
theorem fnExactRelayStart_holds : Rows.FnExactRelayStartSaid := fnExactRelayStart.proved
#print axioms fnExactRelayStart_holds
end Go.Proofs.Ytipaaddjpmlajaa
