/-
  WorldStart of both.
-/
import Derived.Test.YtomnjegldbopiaaWorldV
import Derived.Deep.DeepCutAuto
namespace Go.Proofs.Ytomnjegldbopiaa
open Go.ChangeShapes Go.WideShapes Go.ChangeAt Go.RowKit Go.Deep
set_option linter.unusedVariables false
set_option maxRecDepth 10000
set_option linter.unusedSimpArgs false

set_option maxRecDepth 20000 in
set_option maxHeartbeats 8000000 in
theorem specWStartP (i0 i1 i2 i3 room pipe : Int) (hi : IsWord i0) (h : 1 ≤ room ∧ room ≤ 4096) (hq : 1 ≤ pipe ∧ pipe ≤ 2048) (w : World) :
    Calls Try.prog 4 #[.agg #[.int .u32 i0, .int .u32 i1, .int .u32 i2, .int .u32 i3], .int .i64 room, .int .i64 pipe] w fun e w' => ∃ g, e = .returned (.tuple #[.agg (wdCells ⟨⟨(startC 1 i0 room 0 0), cnZero, false, i1, room, some ⟨g, 0, none⟩, 1, 1, none, 0, 0, 0, ByteArray.empty, ByteArray.empty, ByteArray.empty, ByteArray.empty⟩, prZero, false, i2, i3, pipe, ByteArray.empty, false, 0, pipe, ByteArray.empty, false, 0⟩), .bool true]) ∧ Held shG w' w.heap.size g 1 1 [askSg i0 room] ∧ Since w w' := by
  have hs := fun wx => specStartP i0 i1 room hi h wx
  have hp := fun wx => specRStart pipe wx
  unfold startV at hp
  rw [if_pos hq] at hp
  generalize startC 1 i0 room 0 0 = C at hs ⊢
  generalize askSg i0 room = S at hs ⊢
  have G := Since.refl w
  go_enter Try.func4, Try.ntmps4
  go_upto_region 0 with (fail)
  refine vR ?_
  refine vW (w.alloc (.cells #[.int .u32 i0, .int .u32 i1, .int .u32 i2, .int .u32 i3] 23)) (.pointer (some ⟨w.heap.size, 0, none⟩)) ?_
  have qB2 := Blk.new w #[.int .u32 i0, .int .u32 i1, .int .u32 i2, .int .u32 i3] 23
  have qg3 := (Since.refl w).alloc (.cells #[.int .u32 i0, .int .u32 i1, .int .u32 i2, .int .u32 i3] 23)
  replace G := G.trans qg3
  generalize w.alloc (.cells #[.int .u32 i0, .int .u32 i1, .int .u32 i2, .int .u32 i3] 23) = qw1 at  G qB2 qg3 ⊢
  have qB2_l := qB2.lt
  have qg3_s := qg3.size
  refine vW (qw1.alloc (.cells (wdCells wdZero) 43)) (.pointer (some ⟨qw1.heap.size, 0, none⟩)) ?_
  have qB5 := Blk.new qw1 (wdCells wdZero) 43
  have qg6 := (Since.refl qw1).alloc (.cells (wdCells wdZero) 43)
  replace qB2 := qB2.since qg6
  replace G := G.trans qg6
  generalize qw1.alloc (.cells (wdCells wdZero) 43) = qw4 at qB2 G qB5 qg6 ⊢
  have qB5_l := qB5.lt
  have qg6_s := qg6.size
  refine vV (.bool false) ?_
  refine vE #[.agg #[.int .u32 i0, .int .u32 i1, .int .u32 i2, .int .u32 i3],.int .i64 room,.int .i64 pipe,.pointer (some ⟨w.heap.size, 0, none⟩),U,U,.pointer (some ⟨qw1.heap.size, 0, none⟩),.bool false,U,U,U,U,U,U,U,U,U,U,U,U,U,U,U,U,U,U,U,U,U,U,U,U,U,U,U,U,U,U,U,U] ?_
  go_upto_region 1 with (fail)
  refine vR ?_
  refine vV (.pointer (some ⟨w.heap.size, 0, none⟩)) ?_
  refine vD (.int .u32 i0) (qB2.cell 0) ?_
  refine vV (.pointer (some ⟨w.heap.size, 1, none⟩)) ?_
  refine vD (.int .u32 i1) (qB2.cell 1) ?_
  refine vV (.int .i64 room) ?_
  refine vC (hs _) ?_
  rintro _ qw7 ⟨g1, rfl, H1, qg8⟩
  refine ⟨_, rfl, ?_⟩
  replace qB2 := qB2.since qg8
  replace qB5 := qB5.since qg8
  replace G := G.trans qg8
  have qg8_s := qg8.size
  have H1_0 := H1.low'
  replace H1 := H1.raise (show w.heap.size ≤ g1 by omega)
  have H1_1 := H1.lt
  refine vV (.tuple #[.agg (prCells ⟨C, cnZero, false, i1, room, some ⟨g1, 0, none⟩, 1, 1, none, 0, 0, 0, ByteArray.empty, ByteArray.empty, ByteArray.empty, ByteArray.empty⟩), .bool true]) ?_
  refine vV (.agg (prCells ⟨C, cnZero, false, i1, room, some ⟨g1, 0, none⟩, 1, 1, none, 0, 0, 0, ByteArray.empty, ByteArray.empty, ByteArray.empty, ByteArray.empty⟩)) ?_
  refine vV (.bool true) ?_
  refine vW (qw7.alloc (.cells (prCells prZero) 37)) (.pointer (some ⟨qw7.heap.size, 0, none⟩)) ?_
  have qB10 := Blk.new qw7 (prCells prZero) 37
  have qg11 := (Since.refl qw7).alloc (.cells (prCells prZero) 37)
  replace qB2 := qB2.since qg11
  replace qB5 := qB5.since qg11
  replace H1 := H1.since qg11
  replace G := G.trans qg11
  generalize qw7.alloc (.cells (prCells prZero) 37) = qw9 at qB2 qB5 H1 G qB10 qg11 ⊢
  have qB10_l := qB10.lt
  have qg11_s := qg11.size
  refine sB (prCells ⟨C, cnZero, false, i1, room, some ⟨g1, 0, none⟩, 1, 1, none, 0, 0, 0, ByteArray.empty, ByteArray.empty, ByteArray.empty, ByteArray.empty⟩) pr_big qB10 (pr_size _) (pr_size _) (pr_one _) ?_
  intro qw12 qt13 qB14
  clear qB10
  replace qB2 := qB2.touch qt13 (by omega)
  replace qB5 := qB5.touch qt13 (by omega)
  replace H1 := H1.touch qt13 (by omega)
  replace G := since_touch G qt13 (by omega)
  have qt13_s := qt13.size
  refine vV (.bool true) ?_
  refine vE #[.agg #[.int .u32 i0, .int .u32 i1, .int .u32 i2, .int .u32 i3],.int .i64 room,.int .i64 pipe,.pointer (some ⟨w.heap.size, 0, none⟩),U,U,.pointer (some ⟨qw1.heap.size, 0, none⟩),.bool false,.pointer (some ⟨qw7.heap.size, 0, none⟩),.bool true,U,U,.tuple #[.agg (prCells ⟨C, cnZero, false, i1, room, some ⟨g1, 0, none⟩, 1, 1, none, 0, 0, 0, ByteArray.empty, ByteArray.empty, ByteArray.empty, ByteArray.empty⟩), .bool true],.pointer (some ⟨w.heap.size, 0, none⟩),.int .u32 i0,.pointer (some ⟨w.heap.size, 1, none⟩),.int .u32 i1,.int .i64 room,.tuple #[.agg (prCells ⟨C, cnZero, false, i1, room, some ⟨g1, 0, none⟩, 1, 1, none, 0, 0, 0, ByteArray.empty, ByteArray.empty, ByteArray.empty, ByteArray.empty⟩), .bool true],.agg (prCells ⟨C, cnZero, false, i1, room, some ⟨g1, 0, none⟩, 1, 1, none, 0, 0, 0, ByteArray.empty, ByteArray.empty, ByteArray.empty, ByteArray.empty⟩),.bool true,U,U,U,U,U,U,U,U,U,U,U,U,U,U,U,U,U,U,U] ?_
  go_upto_region 2 with (fail)
  refine vR ?_
  refine vV (.int .i64 pipe) ?_
  refine vK (hp _) ?_
  intro qw15 qg16
  replace qB2 := qB2.since qg16
  replace qB5 := qB5.since qg16
  replace qB14 := qB14.since qg16
  replace H1 := H1.since qg16
  replace G := G.trans qg16
  have qg16_s := qg16.size
  refine vV (.tuple #[.agg #[.int .i64 pipe, .string ByteArray.empty, .bool false, .int .i64 0, .int .i64 pipe, .string ByteArray.empty, .bool false, .int .i64 0], .bool true]) ?_
  refine vV (.agg #[.int .i64 pipe, .string ByteArray.empty, .bool false, .int .i64 0, .int .i64 pipe, .string ByteArray.empty, .bool false, .int .i64 0]) ?_
  refine vV (.bool true) ?_
  refine vW (qw15.alloc (.cells #[.int .i64 0, .string ByteArray.empty, .bool false, .int .i64 0, .int .i64 0, .string ByteArray.empty, .bool false, .int .i64 0] 41)) (.pointer (some ⟨qw15.heap.size, 0, none⟩)) ?_
  have qB18 := Blk.new qw15 #[.int .i64 0, .string ByteArray.empty, .bool false, .int .i64 0, .int .i64 0, .string ByteArray.empty, .bool false, .int .i64 0] 41
  have qg19 := (Since.refl qw15).alloc (.cells #[.int .i64 0, .string ByteArray.empty, .bool false, .int .i64 0, .int .i64 0, .string ByteArray.empty, .bool false, .int .i64 0] 41)
  replace qB2 := qB2.since qg19
  replace qB5 := qB5.since qg19
  replace qB14 := qB14.since qg19
  replace H1 := H1.since qg19
  replace G := G.trans qg19
  generalize qw15.alloc (.cells #[.int .i64 0, .string ByteArray.empty, .bool false, .int .i64 0, .int .i64 0, .string ByteArray.empty, .bool false, .int .i64 0] 41) = qw17 at qB2 qB5 qB14 H1 G qB18 qg19 ⊢
  have qB18_l := qB18.lt
  have qg19_s := qg19.size
  refine sB #[.int .i64 pipe, .string ByteArray.empty, .bool false, .int .i64 0, .int .i64 pipe, .string ByteArray.empty, .bool false, .int .i64 0] rl_big qB18 rfl rfl (by simp [Value.oneCell']) ?_
  intro qw20 qt21 qB22
  clear qB18
  replace qB2 := qB2.touch qt21 (by omega)
  replace qB5 := qB5.touch qt21 (by omega)
  replace qB14 := qB14.touch qt21 (by omega)
  replace H1 := H1.touch qt21 (by omega)
  replace G := since_touch G qt21 (by omega)
  have qt21_s := qt21.size
  refine vV (.bool true) ?_
  refine vE #[.agg #[.int .u32 i0, .int .u32 i1, .int .u32 i2, .int .u32 i3],.int .i64 room,.int .i64 pipe,.pointer (some ⟨w.heap.size, 0, none⟩),U,U,.pointer (some ⟨qw1.heap.size, 0, none⟩),.bool false,.pointer (some ⟨qw7.heap.size, 0, none⟩),.bool true,.pointer (some ⟨qw15.heap.size, 0, none⟩),.bool true,.tuple #[.agg (prCells ⟨C, cnZero, false, i1, room, some ⟨g1, 0, none⟩, 1, 1, none, 0, 0, 0, ByteArray.empty, ByteArray.empty, ByteArray.empty, ByteArray.empty⟩), .bool true],.pointer (some ⟨w.heap.size, 0, none⟩),.int .u32 i0,.pointer (some ⟨w.heap.size, 1, none⟩),.int .u32 i1,.int .i64 room,.tuple #[.agg (prCells ⟨C, cnZero, false, i1, room, some ⟨g1, 0, none⟩, 1, 1, none, 0, 0, 0, ByteArray.empty, ByteArray.empty, ByteArray.empty, ByteArray.empty⟩), .bool true],.agg (prCells ⟨C, cnZero, false, i1, room, some ⟨g1, 0, none⟩, 1, 1, none, 0, 0, 0, ByteArray.empty, ByteArray.empty, ByteArray.empty, ByteArray.empty⟩),.bool true,.tuple #[.agg #[.int .i64 pipe, .string ByteArray.empty, .bool false, .int .i64 0, .int .i64 pipe, .string ByteArray.empty, .bool false, .int .i64 0], .bool true],.int .i64 pipe,.tuple #[.agg #[.int .i64 pipe, .string ByteArray.empty, .bool false, .int .i64 0, .int .i64 pipe, .string ByteArray.empty, .bool false, .int .i64 0], .bool true],.agg #[.int .i64 pipe, .string ByteArray.empty, .bool false, .int .i64 0, .int .i64 pipe, .string ByteArray.empty, .bool false, .int .i64 0],.bool true,U,U,U,U,U,U,U,U,U,U,U,U,U,U] ?_
  go_upto_region 3 with (fail)
  refine vR ?_
  refine vV (.bool true) ?_
  refine vV (.bool false) ?_
  refine vV (.bool false) ?_
  refine vV (.bool true) ?_
  refine vV (.bool false) ?_
  refine vV (.bool false) ?_
  refine vE #[.agg #[.int .u32 i0, .int .u32 i1, .int .u32 i2, .int .u32 i3],.int .i64 room,.int .i64 pipe,.pointer (some ⟨w.heap.size, 0, none⟩),U,U,.pointer (some ⟨qw1.heap.size, 0, none⟩),.bool false,.pointer (some ⟨qw7.heap.size, 0, none⟩),.bool true,.pointer (some ⟨qw15.heap.size, 0, none⟩),.bool true,.tuple #[.agg (prCells ⟨C, cnZero, false, i1, room, some ⟨g1, 0, none⟩, 1, 1, none, 0, 0, 0, ByteArray.empty, ByteArray.empty, ByteArray.empty, ByteArray.empty⟩), .bool true],.pointer (some ⟨w.heap.size, 0, none⟩),.int .u32 i0,.pointer (some ⟨w.heap.size, 1, none⟩),.int .u32 i1,.int .i64 room,.tuple #[.agg (prCells ⟨C, cnZero, false, i1, room, some ⟨g1, 0, none⟩, 1, 1, none, 0, 0, 0, ByteArray.empty, ByteArray.empty, ByteArray.empty, ByteArray.empty⟩), .bool true],.agg (prCells ⟨C, cnZero, false, i1, room, some ⟨g1, 0, none⟩, 1, 1, none, 0, 0, 0, ByteArray.empty, ByteArray.empty, ByteArray.empty, ByteArray.empty⟩),.bool true,.tuple #[.agg #[.int .i64 pipe, .string ByteArray.empty, .bool false, .int .i64 0, .int .i64 pipe, .string ByteArray.empty, .bool false, .int .i64 0], .bool true],.int .i64 pipe,.tuple #[.agg #[.int .i64 pipe, .string ByteArray.empty, .bool false, .int .i64 0, .int .i64 pipe, .string ByteArray.empty, .bool false, .int .i64 0], .bool true],.agg #[.int .i64 pipe, .string ByteArray.empty, .bool false, .int .i64 0, .int .i64 pipe, .string ByteArray.empty, .bool false, .int .i64 0],.bool true,.bool true,.bool false,.bool false,.bool true,.bool false,.bool false,U,U,U,U,U,U,U,U] ?_
  go_upto_region 5 with (fail)
  refine vR ?_
  refine vB pr_big qB14 (pr_size _) ?_
  refine vV (.pointer (some ⟨w.heap.size, 2, none⟩)) ?_
  refine vD (.int .u32 i2) (qB2.cell 2) ?_
  refine vV (.pointer (some ⟨w.heap.size, 3, none⟩)) ?_
  refine vD (.int .u32 i3) (qB2.cell 3) ?_
  refine vB rl_big qB22 rfl ?_
  refine vV (.agg (wdCells ⟨⟨C, cnZero, false, i1, room, some ⟨g1, 0, none⟩, 1, 1, none, 0, 0, 0, ByteArray.empty, ByteArray.empty, ByteArray.empty, ByteArray.empty⟩, prZero, false, i2, i3, pipe, ByteArray.empty, false, 0, pipe, ByteArray.empty, false, 0⟩)) ?_
  refine sB (wdCells ⟨⟨C, cnZero, false, i1, room, some ⟨g1, 0, none⟩, 1, 1, none, 0, 0, 0, ByteArray.empty, ByteArray.empty, ByteArray.empty, ByteArray.empty⟩, prZero, false, i2, i3, pipe, ByteArray.empty, false, 0, pipe, ByteArray.empty, false, 0⟩) wd_big qB5 (wd_size _) (wd_size _) (wd_one _) ?_
  intro qw23 qt24 qB25
  clear qB5
  replace qB2 := qB2.touch qt24 (by omega)
  replace qB14 := qB14.touch qt24 (by omega)
  replace qB22 := qB22.touch qt24 (by omega)
  replace H1 := H1.touch qt24 (by omega)
  replace G := since_touch G qt24 (by omega)
  have qt24_s := qt24.size
  refine vV (.bool true) ?_
  refine vE #[.agg #[.int .u32 i0, .int .u32 i1, .int .u32 i2, .int .u32 i3],.int .i64 room,.int .i64 pipe,.pointer (some ⟨w.heap.size, 0, none⟩),U,U,.pointer (some ⟨qw1.heap.size, 0, none⟩),.bool true,.pointer (some ⟨qw7.heap.size, 0, none⟩),.bool true,.pointer (some ⟨qw15.heap.size, 0, none⟩),.bool true,.tuple #[.agg (prCells ⟨C, cnZero, false, i1, room, some ⟨g1, 0, none⟩, 1, 1, none, 0, 0, 0, ByteArray.empty, ByteArray.empty, ByteArray.empty, ByteArray.empty⟩), .bool true],.pointer (some ⟨w.heap.size, 0, none⟩),.int .u32 i0,.pointer (some ⟨w.heap.size, 1, none⟩),.int .u32 i1,.int .i64 room,.tuple #[.agg (prCells ⟨C, cnZero, false, i1, room, some ⟨g1, 0, none⟩, 1, 1, none, 0, 0, 0, ByteArray.empty, ByteArray.empty, ByteArray.empty, ByteArray.empty⟩), .bool true],.agg (prCells ⟨C, cnZero, false, i1, room, some ⟨g1, 0, none⟩, 1, 1, none, 0, 0, 0, ByteArray.empty, ByteArray.empty, ByteArray.empty, ByteArray.empty⟩),.bool true,.tuple #[.agg #[.int .i64 pipe, .string ByteArray.empty, .bool false, .int .i64 0, .int .i64 pipe, .string ByteArray.empty, .bool false, .int .i64 0], .bool true],.int .i64 pipe,.tuple #[.agg #[.int .i64 pipe, .string ByteArray.empty, .bool false, .int .i64 0, .int .i64 pipe, .string ByteArray.empty, .bool false, .int .i64 0], .bool true],.agg #[.int .i64 pipe, .string ByteArray.empty, .bool false, .int .i64 0, .int .i64 pipe, .string ByteArray.empty, .bool false, .int .i64 0],.bool true,.bool true,.bool false,.bool false,.bool true,.bool false,.bool false,U,.agg (prCells ⟨C, cnZero, false, i1, room, some ⟨g1, 0, none⟩, 1, 1, none, 0, 0, 0, ByteArray.empty, ByteArray.empty, ByteArray.empty, ByteArray.empty⟩),.pointer (some ⟨w.heap.size, 2, none⟩),.int .u32 i2,.pointer (some ⟨w.heap.size, 3, none⟩),.int .u32 i3,.agg #[.int .i64 pipe, .string ByteArray.empty, .bool false, .int .i64 0, .int .i64 pipe, .string ByteArray.empty, .bool false, .int .i64 0],.agg (wdCells ⟨⟨C, cnZero, false, i1, room, some ⟨g1, 0, none⟩, 1, 1, none, 0, 0, 0, ByteArray.empty, ByteArray.empty, ByteArray.empty, ByteArray.empty⟩, prZero, false, i2, i3, pipe, ByteArray.empty, false, 0, pipe, ByteArray.empty, false, 0⟩)] ?_
  go_wp2_with (fail)
  exact bodyPost_ret (results_wd2 (t := 6) (u := 7) rfl _ rfl qB25) rfl ⟨_, rfl, H1.raise (by omega), G⟩

set_option maxRecDepth 20000 in
set_option maxHeartbeats 8000000 in
theorem specWStartQ (i0 i1 i2 i3 room pipe : Int) (hi : IsWord i0) (h : 1 ≤ room ∧ room ≤ 4096) (hq : ¬ (1 ≤ pipe ∧ pipe ≤ 2048)) (w : World) :
    Calls Try.prog 4 #[.agg #[.int .u32 i0, .int .u32 i1, .int .u32 i2, .int .u32 i3], .int .i64 room, .int .i64 pipe] w fun e w' => e = .returned (.tuple #[.agg (wdCells wdZero), .bool false]) ∧ Since w w' := by
  have hs := fun wx => specStartP i0 i1 room hi h wx
  have hp := fun wx => specRStart pipe wx
  unfold startV at hp
  rw [if_neg hq] at hp
  generalize startC 1 i0 room 0 0 = C at hs
  generalize askSg i0 room = S at hs
  have G := Since.refl w
  go_enter Try.func4, Try.ntmps4
  go_upto_region 0 with (fail)
  refine vR ?_
  refine vW (w.alloc (.cells #[.int .u32 i0, .int .u32 i1, .int .u32 i2, .int .u32 i3] 23)) (.pointer (some ⟨w.heap.size, 0, none⟩)) ?_
  have qB2 := Blk.new w #[.int .u32 i0, .int .u32 i1, .int .u32 i2, .int .u32 i3] 23
  have qg3 := (Since.refl w).alloc (.cells #[.int .u32 i0, .int .u32 i1, .int .u32 i2, .int .u32 i3] 23)
  replace G := G.trans qg3
  generalize w.alloc (.cells #[.int .u32 i0, .int .u32 i1, .int .u32 i2, .int .u32 i3] 23) = qw1 at  G qB2 qg3 ⊢
  have qB2_l := qB2.lt
  have qg3_s := qg3.size
  refine vW (qw1.alloc (.cells (wdCells wdZero) 43)) (.pointer (some ⟨qw1.heap.size, 0, none⟩)) ?_
  have qB5 := Blk.new qw1 (wdCells wdZero) 43
  have qg6 := (Since.refl qw1).alloc (.cells (wdCells wdZero) 43)
  replace qB2 := qB2.since qg6
  replace G := G.trans qg6
  generalize qw1.alloc (.cells (wdCells wdZero) 43) = qw4 at qB2 G qB5 qg6 ⊢
  have qB5_l := qB5.lt
  have qg6_s := qg6.size
  refine vV (.bool false) ?_
  refine vE #[.agg #[.int .u32 i0, .int .u32 i1, .int .u32 i2, .int .u32 i3],.int .i64 room,.int .i64 pipe,.pointer (some ⟨w.heap.size, 0, none⟩),U,U,.pointer (some ⟨qw1.heap.size, 0, none⟩),.bool false,U,U,U,U,U,U,U,U,U,U,U,U,U,U,U,U,U,U,U,U,U,U,U,U,U,U,U,U,U,U,U,U] ?_
  go_upto_region 1 with (fail)
  refine vR ?_
  refine vV (.pointer (some ⟨w.heap.size, 0, none⟩)) ?_
  refine vD (.int .u32 i0) (qB2.cell 0) ?_
  refine vV (.pointer (some ⟨w.heap.size, 1, none⟩)) ?_
  refine vD (.int .u32 i1) (qB2.cell 1) ?_
  refine vV (.int .i64 room) ?_
  refine vC (hs _) ?_
  rintro _ qw7 ⟨g1, rfl, H1, qg8⟩
  refine ⟨_, rfl, ?_⟩
  replace qB2 := qB2.since qg8
  replace qB5 := qB5.since qg8
  replace G := G.trans qg8
  have qg8_s := qg8.size
  have H1_0 := H1.low'
  replace H1 := H1.raise (show w.heap.size ≤ g1 by omega)
  have H1_1 := H1.lt
  refine vV (.tuple #[.agg (prCells ⟨C, cnZero, false, i1, room, some ⟨g1, 0, none⟩, 1, 1, none, 0, 0, 0, ByteArray.empty, ByteArray.empty, ByteArray.empty, ByteArray.empty⟩), .bool true]) ?_
  refine vV (.agg (prCells ⟨C, cnZero, false, i1, room, some ⟨g1, 0, none⟩, 1, 1, none, 0, 0, 0, ByteArray.empty, ByteArray.empty, ByteArray.empty, ByteArray.empty⟩)) ?_
  refine vV (.bool true) ?_
  refine vW (qw7.alloc (.cells (prCells prZero) 37)) (.pointer (some ⟨qw7.heap.size, 0, none⟩)) ?_
  have qB10 := Blk.new qw7 (prCells prZero) 37
  have qg11 := (Since.refl qw7).alloc (.cells (prCells prZero) 37)
  replace qB2 := qB2.since qg11
  replace qB5 := qB5.since qg11
  replace H1 := H1.since qg11
  replace G := G.trans qg11
  generalize qw7.alloc (.cells (prCells prZero) 37) = qw9 at qB2 qB5 H1 G qB10 qg11 ⊢
  have qB10_l := qB10.lt
  have qg11_s := qg11.size
  refine sB (prCells ⟨C, cnZero, false, i1, room, some ⟨g1, 0, none⟩, 1, 1, none, 0, 0, 0, ByteArray.empty, ByteArray.empty, ByteArray.empty, ByteArray.empty⟩) pr_big qB10 (pr_size _) (pr_size _) (pr_one _) ?_
  intro qw12 qt13 qB14
  clear qB10
  replace qB2 := qB2.touch qt13 (by omega)
  replace qB5 := qB5.touch qt13 (by omega)
  replace H1 := H1.touch qt13 (by omega)
  replace G := since_touch G qt13 (by omega)
  have qt13_s := qt13.size
  refine vV (.bool true) ?_
  refine vE #[.agg #[.int .u32 i0, .int .u32 i1, .int .u32 i2, .int .u32 i3],.int .i64 room,.int .i64 pipe,.pointer (some ⟨w.heap.size, 0, none⟩),U,U,.pointer (some ⟨qw1.heap.size, 0, none⟩),.bool false,.pointer (some ⟨qw7.heap.size, 0, none⟩),.bool true,U,U,.tuple #[.agg (prCells ⟨C, cnZero, false, i1, room, some ⟨g1, 0, none⟩, 1, 1, none, 0, 0, 0, ByteArray.empty, ByteArray.empty, ByteArray.empty, ByteArray.empty⟩), .bool true],.pointer (some ⟨w.heap.size, 0, none⟩),.int .u32 i0,.pointer (some ⟨w.heap.size, 1, none⟩),.int .u32 i1,.int .i64 room,.tuple #[.agg (prCells ⟨C, cnZero, false, i1, room, some ⟨g1, 0, none⟩, 1, 1, none, 0, 0, 0, ByteArray.empty, ByteArray.empty, ByteArray.empty, ByteArray.empty⟩), .bool true],.agg (prCells ⟨C, cnZero, false, i1, room, some ⟨g1, 0, none⟩, 1, 1, none, 0, 0, 0, ByteArray.empty, ByteArray.empty, ByteArray.empty, ByteArray.empty⟩),.bool true,U,U,U,U,U,U,U,U,U,U,U,U,U,U,U,U,U,U,U] ?_
  go_upto_region 2 with (fail)
  refine vR ?_
  refine vV (.int .i64 pipe) ?_
  refine vK (hp _) ?_
  intro qw15 qg16
  replace qB2 := qB2.since qg16
  replace qB5 := qB5.since qg16
  replace qB14 := qB14.since qg16
  replace H1 := H1.since qg16
  replace G := G.trans qg16
  have qg16_s := qg16.size
  refine vV (.tuple #[.agg #[.int .i64 0, .string ByteArray.empty, .bool false, .int .i64 0, .int .i64 0, .string ByteArray.empty, .bool false, .int .i64 0], .bool false]) ?_
  refine vV (.agg #[.int .i64 0, .string ByteArray.empty, .bool false, .int .i64 0, .int .i64 0, .string ByteArray.empty, .bool false, .int .i64 0]) ?_
  refine vV (.bool false) ?_
  refine vW (qw15.alloc (.cells #[.int .i64 0, .string ByteArray.empty, .bool false, .int .i64 0, .int .i64 0, .string ByteArray.empty, .bool false, .int .i64 0] 41)) (.pointer (some ⟨qw15.heap.size, 0, none⟩)) ?_
  have qB18 := Blk.new qw15 #[.int .i64 0, .string ByteArray.empty, .bool false, .int .i64 0, .int .i64 0, .string ByteArray.empty, .bool false, .int .i64 0] 41
  have qg19 := (Since.refl qw15).alloc (.cells #[.int .i64 0, .string ByteArray.empty, .bool false, .int .i64 0, .int .i64 0, .string ByteArray.empty, .bool false, .int .i64 0] 41)
  replace qB2 := qB2.since qg19
  replace qB5 := qB5.since qg19
  replace qB14 := qB14.since qg19
  replace H1 := H1.since qg19
  replace G := G.trans qg19
  generalize qw15.alloc (.cells #[.int .i64 0, .string ByteArray.empty, .bool false, .int .i64 0, .int .i64 0, .string ByteArray.empty, .bool false, .int .i64 0] 41) = qw17 at qB2 qB5 qB14 H1 G qB18 qg19 ⊢
  have qB18_l := qB18.lt
  have qg19_s := qg19.size
  refine sB #[.int .i64 0, .string ByteArray.empty, .bool false, .int .i64 0, .int .i64 0, .string ByteArray.empty, .bool false, .int .i64 0] rl_big qB18 rfl rfl (by simp [Value.oneCell']) ?_
  intro qw20 qt21 qB22
  clear qB18
  replace qB2 := qB2.touch qt21 (by omega)
  replace qB5 := qB5.touch qt21 (by omega)
  replace qB14 := qB14.touch qt21 (by omega)
  replace H1 := H1.touch qt21 (by omega)
  replace G := since_touch G qt21 (by omega)
  have qt21_s := qt21.size
  refine vV (.bool false) ?_
  refine vE #[.agg #[.int .u32 i0, .int .u32 i1, .int .u32 i2, .int .u32 i3],.int .i64 room,.int .i64 pipe,.pointer (some ⟨w.heap.size, 0, none⟩),U,U,.pointer (some ⟨qw1.heap.size, 0, none⟩),.bool false,.pointer (some ⟨qw7.heap.size, 0, none⟩),.bool true,.pointer (some ⟨qw15.heap.size, 0, none⟩),.bool false,.tuple #[.agg (prCells ⟨C, cnZero, false, i1, room, some ⟨g1, 0, none⟩, 1, 1, none, 0, 0, 0, ByteArray.empty, ByteArray.empty, ByteArray.empty, ByteArray.empty⟩), .bool true],.pointer (some ⟨w.heap.size, 0, none⟩),.int .u32 i0,.pointer (some ⟨w.heap.size, 1, none⟩),.int .u32 i1,.int .i64 room,.tuple #[.agg (prCells ⟨C, cnZero, false, i1, room, some ⟨g1, 0, none⟩, 1, 1, none, 0, 0, 0, ByteArray.empty, ByteArray.empty, ByteArray.empty, ByteArray.empty⟩), .bool true],.agg (prCells ⟨C, cnZero, false, i1, room, some ⟨g1, 0, none⟩, 1, 1, none, 0, 0, 0, ByteArray.empty, ByteArray.empty, ByteArray.empty, ByteArray.empty⟩),.bool true,.tuple #[.agg #[.int .i64 0, .string ByteArray.empty, .bool false, .int .i64 0, .int .i64 0, .string ByteArray.empty, .bool false, .int .i64 0], .bool false],.int .i64 pipe,.tuple #[.agg #[.int .i64 0, .string ByteArray.empty, .bool false, .int .i64 0, .int .i64 0, .string ByteArray.empty, .bool false, .int .i64 0], .bool false],.agg #[.int .i64 0, .string ByteArray.empty, .bool false, .int .i64 0, .int .i64 0, .string ByteArray.empty, .bool false, .int .i64 0],.bool false,U,U,U,U,U,U,U,U,U,U,U,U,U,U] ?_
  go_upto_region 3 with (fail)
  refine vR ?_
  refine vV (.bool true) ?_
  refine vV (.bool false) ?_
  refine vV (.bool false) ?_
  refine vV (.bool false) ?_
  refine vV (.bool true) ?_
  refine vV (.bool true) ?_
  refine vE #[.agg #[.int .u32 i0, .int .u32 i1, .int .u32 i2, .int .u32 i3],.int .i64 room,.int .i64 pipe,.pointer (some ⟨w.heap.size, 0, none⟩),U,U,.pointer (some ⟨qw1.heap.size, 0, none⟩),.bool false,.pointer (some ⟨qw7.heap.size, 0, none⟩),.bool true,.pointer (some ⟨qw15.heap.size, 0, none⟩),.bool false,.tuple #[.agg (prCells ⟨C, cnZero, false, i1, room, some ⟨g1, 0, none⟩, 1, 1, none, 0, 0, 0, ByteArray.empty, ByteArray.empty, ByteArray.empty, ByteArray.empty⟩), .bool true],.pointer (some ⟨w.heap.size, 0, none⟩),.int .u32 i0,.pointer (some ⟨w.heap.size, 1, none⟩),.int .u32 i1,.int .i64 room,.tuple #[.agg (prCells ⟨C, cnZero, false, i1, room, some ⟨g1, 0, none⟩, 1, 1, none, 0, 0, 0, ByteArray.empty, ByteArray.empty, ByteArray.empty, ByteArray.empty⟩), .bool true],.agg (prCells ⟨C, cnZero, false, i1, room, some ⟨g1, 0, none⟩, 1, 1, none, 0, 0, 0, ByteArray.empty, ByteArray.empty, ByteArray.empty, ByteArray.empty⟩),.bool true,.tuple #[.agg #[.int .i64 0, .string ByteArray.empty, .bool false, .int .i64 0, .int .i64 0, .string ByteArray.empty, .bool false, .int .i64 0], .bool false],.int .i64 pipe,.tuple #[.agg #[.int .i64 0, .string ByteArray.empty, .bool false, .int .i64 0, .int .i64 0, .string ByteArray.empty, .bool false, .int .i64 0], .bool false],.agg #[.int .i64 0, .string ByteArray.empty, .bool false, .int .i64 0, .int .i64 0, .string ByteArray.empty, .bool false, .int .i64 0],.bool false,.bool true,.bool false,.bool false,.bool false,.bool true,.bool true,U,U,U,U,U,U,U,U] ?_
  go_upto_region 4 with (fail)
  refine vR ?_
  refine vV (.agg (wdCells wdZero)) ?_
  refine sB (wdCells wdZero) wd_big qB5 (wd_size _) (wd_size _) (wd_one _) ?_
  intro qw23 qt24 qB25
  clear qB5
  replace qB2 := qB2.touch qt24 (by omega)
  replace qB14 := qB14.touch qt24 (by omega)
  replace qB22 := qB22.touch qt24 (by omega)
  replace H1 := H1.touch qt24 (by omega)
  replace G := since_touch G qt24 (by omega)
  have qt24_s := qt24.size
  refine vV (.bool false) ?_
  refine vE #[.agg #[.int .u32 i0, .int .u32 i1, .int .u32 i2, .int .u32 i3],.int .i64 room,.int .i64 pipe,.pointer (some ⟨w.heap.size, 0, none⟩),U,U,.pointer (some ⟨qw1.heap.size, 0, none⟩),.bool false,.pointer (some ⟨qw7.heap.size, 0, none⟩),.bool true,.pointer (some ⟨qw15.heap.size, 0, none⟩),.bool false,.tuple #[.agg (prCells ⟨C, cnZero, false, i1, room, some ⟨g1, 0, none⟩, 1, 1, none, 0, 0, 0, ByteArray.empty, ByteArray.empty, ByteArray.empty, ByteArray.empty⟩), .bool true],.pointer (some ⟨w.heap.size, 0, none⟩),.int .u32 i0,.pointer (some ⟨w.heap.size, 1, none⟩),.int .u32 i1,.int .i64 room,.tuple #[.agg (prCells ⟨C, cnZero, false, i1, room, some ⟨g1, 0, none⟩, 1, 1, none, 0, 0, 0, ByteArray.empty, ByteArray.empty, ByteArray.empty, ByteArray.empty⟩), .bool true],.agg (prCells ⟨C, cnZero, false, i1, room, some ⟨g1, 0, none⟩, 1, 1, none, 0, 0, 0, ByteArray.empty, ByteArray.empty, ByteArray.empty, ByteArray.empty⟩),.bool true,.tuple #[.agg #[.int .i64 0, .string ByteArray.empty, .bool false, .int .i64 0, .int .i64 0, .string ByteArray.empty, .bool false, .int .i64 0], .bool false],.int .i64 pipe,.tuple #[.agg #[.int .i64 0, .string ByteArray.empty, .bool false, .int .i64 0, .int .i64 0, .string ByteArray.empty, .bool false, .int .i64 0], .bool false],.agg #[.int .i64 0, .string ByteArray.empty, .bool false, .int .i64 0, .int .i64 0, .string ByteArray.empty, .bool false, .int .i64 0],.bool false,.bool true,.bool false,.bool false,.bool false,.bool true,.bool true,.agg (wdCells wdZero),U,U,U,U,U,U,U] ?_
  go_wp2_with (fail)
  exact bodyPost_ret (results_wd2 (t := 6) (u := 7) rfl _ rfl qB25) rfl ⟨rfl, G⟩

set_option maxRecDepth 20000 in
set_option maxHeartbeats 8000000 in
theorem specWStartR (i0 i1 i2 i3 room pipe : Int) (hi : IsWord i0) (h : ¬ (1 ≤ room ∧ room ≤ 4096)) (hq : 1 ≤ pipe ∧ pipe ≤ 2048) (w : World) :
    Calls Try.prog 4 #[.agg #[.int .u32 i0, .int .u32 i1, .int .u32 i2, .int .u32 i3], .int .i64 room, .int .i64 pipe] w fun e w' => e = .returned (.tuple #[.agg (wdCells wdZero), .bool false]) ∧ Since w w' := by
  have hs := fun wx => specStartN i0 i1 room hi h wx
  have hp := fun wx => specRStart pipe wx
  unfold startV at hp
  rw [if_pos hq] at hp
  have G := Since.refl w
  go_enter Try.func4, Try.ntmps4
  go_upto_region 0 with (fail)
  refine vR ?_
  refine vW (w.alloc (.cells #[.int .u32 i0, .int .u32 i1, .int .u32 i2, .int .u32 i3] 23)) (.pointer (some ⟨w.heap.size, 0, none⟩)) ?_
  have qB2 := Blk.new w #[.int .u32 i0, .int .u32 i1, .int .u32 i2, .int .u32 i3] 23
  have qg3 := (Since.refl w).alloc (.cells #[.int .u32 i0, .int .u32 i1, .int .u32 i2, .int .u32 i3] 23)
  replace G := G.trans qg3
  generalize w.alloc (.cells #[.int .u32 i0, .int .u32 i1, .int .u32 i2, .int .u32 i3] 23) = qw1 at  G qB2 qg3 ⊢
  have qB2_l := qB2.lt
  have qg3_s := qg3.size
  refine vW (qw1.alloc (.cells (wdCells wdZero) 43)) (.pointer (some ⟨qw1.heap.size, 0, none⟩)) ?_
  have qB5 := Blk.new qw1 (wdCells wdZero) 43
  have qg6 := (Since.refl qw1).alloc (.cells (wdCells wdZero) 43)
  replace qB2 := qB2.since qg6
  replace G := G.trans qg6
  generalize qw1.alloc (.cells (wdCells wdZero) 43) = qw4 at qB2 G qB5 qg6 ⊢
  have qB5_l := qB5.lt
  have qg6_s := qg6.size
  refine vV (.bool false) ?_
  refine vE #[.agg #[.int .u32 i0, .int .u32 i1, .int .u32 i2, .int .u32 i3],.int .i64 room,.int .i64 pipe,.pointer (some ⟨w.heap.size, 0, none⟩),U,U,.pointer (some ⟨qw1.heap.size, 0, none⟩),.bool false,U,U,U,U,U,U,U,U,U,U,U,U,U,U,U,U,U,U,U,U,U,U,U,U,U,U,U,U,U,U,U,U] ?_
  go_upto_region 1 with (fail)
  refine vR ?_
  refine vV (.pointer (some ⟨w.heap.size, 0, none⟩)) ?_
  refine vD (.int .u32 i0) (qB2.cell 0) ?_
  refine vV (.pointer (some ⟨w.heap.size, 1, none⟩)) ?_
  refine vD (.int .u32 i1) (qB2.cell 1) ?_
  refine vV (.int .i64 room) ?_
  refine vK (hs _) ?_
  intro qw7 qg8
  replace qB2 := qB2.since qg8
  replace qB5 := qB5.since qg8
  replace G := G.trans qg8
  have qg8_s := qg8.size
  refine vV (.tuple #[.agg (prCells prZero), .bool false]) ?_
  refine vV (.agg (prCells prZero)) ?_
  refine vV (.bool false) ?_
  refine vW (qw7.alloc (.cells (prCells prZero) 37)) (.pointer (some ⟨qw7.heap.size, 0, none⟩)) ?_
  have qB10 := Blk.new qw7 (prCells prZero) 37
  have qg11 := (Since.refl qw7).alloc (.cells (prCells prZero) 37)
  replace qB2 := qB2.since qg11
  replace qB5 := qB5.since qg11
  replace G := G.trans qg11
  generalize qw7.alloc (.cells (prCells prZero) 37) = qw9 at qB2 qB5 G qB10 qg11 ⊢
  have qB10_l := qB10.lt
  have qg11_s := qg11.size
  refine sB (prCells prZero) pr_big qB10 (pr_size _) (pr_size _) (pr_one _) ?_
  intro qw12 qt13 qB14
  clear qB10
  replace qB2 := qB2.touch qt13 (by omega)
  replace qB5 := qB5.touch qt13 (by omega)
  replace G := since_touch G qt13 (by omega)
  have qt13_s := qt13.size
  refine vV (.bool false) ?_
  refine vE #[.agg #[.int .u32 i0, .int .u32 i1, .int .u32 i2, .int .u32 i3],.int .i64 room,.int .i64 pipe,.pointer (some ⟨w.heap.size, 0, none⟩),U,U,.pointer (some ⟨qw1.heap.size, 0, none⟩),.bool false,.pointer (some ⟨qw7.heap.size, 0, none⟩),.bool false,U,U,.tuple #[.agg (prCells prZero), .bool false],.pointer (some ⟨w.heap.size, 0, none⟩),.int .u32 i0,.pointer (some ⟨w.heap.size, 1, none⟩),.int .u32 i1,.int .i64 room,.tuple #[.agg (prCells prZero), .bool false],.agg (prCells prZero),.bool false,U,U,U,U,U,U,U,U,U,U,U,U,U,U,U,U,U,U,U] ?_
  go_upto_region 2 with (fail)
  refine vR ?_
  refine vV (.int .i64 pipe) ?_
  refine vK (hp _) ?_
  intro qw15 qg16
  replace qB2 := qB2.since qg16
  replace qB5 := qB5.since qg16
  replace qB14 := qB14.since qg16
  replace G := G.trans qg16
  have qg16_s := qg16.size
  refine vV (.tuple #[.agg #[.int .i64 pipe, .string ByteArray.empty, .bool false, .int .i64 0, .int .i64 pipe, .string ByteArray.empty, .bool false, .int .i64 0], .bool true]) ?_
  refine vV (.agg #[.int .i64 pipe, .string ByteArray.empty, .bool false, .int .i64 0, .int .i64 pipe, .string ByteArray.empty, .bool false, .int .i64 0]) ?_
  refine vV (.bool true) ?_
  refine vW (qw15.alloc (.cells #[.int .i64 0, .string ByteArray.empty, .bool false, .int .i64 0, .int .i64 0, .string ByteArray.empty, .bool false, .int .i64 0] 41)) (.pointer (some ⟨qw15.heap.size, 0, none⟩)) ?_
  have qB18 := Blk.new qw15 #[.int .i64 0, .string ByteArray.empty, .bool false, .int .i64 0, .int .i64 0, .string ByteArray.empty, .bool false, .int .i64 0] 41
  have qg19 := (Since.refl qw15).alloc (.cells #[.int .i64 0, .string ByteArray.empty, .bool false, .int .i64 0, .int .i64 0, .string ByteArray.empty, .bool false, .int .i64 0] 41)
  replace qB2 := qB2.since qg19
  replace qB5 := qB5.since qg19
  replace qB14 := qB14.since qg19
  replace G := G.trans qg19
  generalize qw15.alloc (.cells #[.int .i64 0, .string ByteArray.empty, .bool false, .int .i64 0, .int .i64 0, .string ByteArray.empty, .bool false, .int .i64 0] 41) = qw17 at qB2 qB5 qB14 G qB18 qg19 ⊢
  have qB18_l := qB18.lt
  have qg19_s := qg19.size
  refine sB #[.int .i64 pipe, .string ByteArray.empty, .bool false, .int .i64 0, .int .i64 pipe, .string ByteArray.empty, .bool false, .int .i64 0] rl_big qB18 rfl rfl (by simp [Value.oneCell']) ?_
  intro qw20 qt21 qB22
  clear qB18
  replace qB2 := qB2.touch qt21 (by omega)
  replace qB5 := qB5.touch qt21 (by omega)
  replace qB14 := qB14.touch qt21 (by omega)
  replace G := since_touch G qt21 (by omega)
  have qt21_s := qt21.size
  refine vV (.bool true) ?_
  refine vE #[.agg #[.int .u32 i0, .int .u32 i1, .int .u32 i2, .int .u32 i3],.int .i64 room,.int .i64 pipe,.pointer (some ⟨w.heap.size, 0, none⟩),U,U,.pointer (some ⟨qw1.heap.size, 0, none⟩),.bool false,.pointer (some ⟨qw7.heap.size, 0, none⟩),.bool false,.pointer (some ⟨qw15.heap.size, 0, none⟩),.bool true,.tuple #[.agg (prCells prZero), .bool false],.pointer (some ⟨w.heap.size, 0, none⟩),.int .u32 i0,.pointer (some ⟨w.heap.size, 1, none⟩),.int .u32 i1,.int .i64 room,.tuple #[.agg (prCells prZero), .bool false],.agg (prCells prZero),.bool false,.tuple #[.agg #[.int .i64 pipe, .string ByteArray.empty, .bool false, .int .i64 0, .int .i64 pipe, .string ByteArray.empty, .bool false, .int .i64 0], .bool true],.int .i64 pipe,.tuple #[.agg #[.int .i64 pipe, .string ByteArray.empty, .bool false, .int .i64 0, .int .i64 pipe, .string ByteArray.empty, .bool false, .int .i64 0], .bool true],.agg #[.int .i64 pipe, .string ByteArray.empty, .bool false, .int .i64 0, .int .i64 pipe, .string ByteArray.empty, .bool false, .int .i64 0],.bool true,U,U,U,U,U,U,U,U,U,U,U,U,U,U] ?_
  go_upto_region 3 with (fail)
  refine vR ?_
  refine vV (.bool false) ?_
  refine vV (.bool true) ?_
  refine vV (.bool true) ?_
  refine vS ?_
  refine vS ?_
  refine vV (.bool true) ?_
  refine vE #[.agg #[.int .u32 i0, .int .u32 i1, .int .u32 i2, .int .u32 i3],.int .i64 room,.int .i64 pipe,.pointer (some ⟨w.heap.size, 0, none⟩),U,U,.pointer (some ⟨qw1.heap.size, 0, none⟩),.bool false,.pointer (some ⟨qw7.heap.size, 0, none⟩),.bool false,.pointer (some ⟨qw15.heap.size, 0, none⟩),.bool true,.tuple #[.agg (prCells prZero), .bool false],.pointer (some ⟨w.heap.size, 0, none⟩),.int .u32 i0,.pointer (some ⟨w.heap.size, 1, none⟩),.int .u32 i1,.int .i64 room,.tuple #[.agg (prCells prZero), .bool false],.agg (prCells prZero),.bool false,.tuple #[.agg #[.int .i64 pipe, .string ByteArray.empty, .bool false, .int .i64 0, .int .i64 pipe, .string ByteArray.empty, .bool false, .int .i64 0], .bool true],.int .i64 pipe,.tuple #[.agg #[.int .i64 pipe, .string ByteArray.empty, .bool false, .int .i64 0, .int .i64 pipe, .string ByteArray.empty, .bool false, .int .i64 0], .bool true],.agg #[.int .i64 pipe, .string ByteArray.empty, .bool false, .int .i64 0, .int .i64 pipe, .string ByteArray.empty, .bool false, .int .i64 0],.bool true,.bool false,.bool true,.bool true,U,U,.bool true,U,U,U,U,U,U,U,U] ?_
  go_upto_region 4 with (fail)
  refine vR ?_
  refine vV (.agg (wdCells wdZero)) ?_
  refine sB (wdCells wdZero) wd_big qB5 (wd_size _) (wd_size _) (wd_one _) ?_
  intro qw23 qt24 qB25
  clear qB5
  replace qB2 := qB2.touch qt24 (by omega)
  replace qB14 := qB14.touch qt24 (by omega)
  replace qB22 := qB22.touch qt24 (by omega)
  replace G := since_touch G qt24 (by omega)
  have qt24_s := qt24.size
  refine vV (.bool false) ?_
  refine vE #[.agg #[.int .u32 i0, .int .u32 i1, .int .u32 i2, .int .u32 i3],.int .i64 room,.int .i64 pipe,.pointer (some ⟨w.heap.size, 0, none⟩),U,U,.pointer (some ⟨qw1.heap.size, 0, none⟩),.bool false,.pointer (some ⟨qw7.heap.size, 0, none⟩),.bool false,.pointer (some ⟨qw15.heap.size, 0, none⟩),.bool true,.tuple #[.agg (prCells prZero), .bool false],.pointer (some ⟨w.heap.size, 0, none⟩),.int .u32 i0,.pointer (some ⟨w.heap.size, 1, none⟩),.int .u32 i1,.int .i64 room,.tuple #[.agg (prCells prZero), .bool false],.agg (prCells prZero),.bool false,.tuple #[.agg #[.int .i64 pipe, .string ByteArray.empty, .bool false, .int .i64 0, .int .i64 pipe, .string ByteArray.empty, .bool false, .int .i64 0], .bool true],.int .i64 pipe,.tuple #[.agg #[.int .i64 pipe, .string ByteArray.empty, .bool false, .int .i64 0, .int .i64 pipe, .string ByteArray.empty, .bool false, .int .i64 0], .bool true],.agg #[.int .i64 pipe, .string ByteArray.empty, .bool false, .int .i64 0, .int .i64 pipe, .string ByteArray.empty, .bool false, .int .i64 0],.bool true,.bool false,.bool true,.bool true,U,U,.bool true,.agg (wdCells wdZero),U,U,U,U,U,U,U] ?_
  go_wp2_with (fail)
  exact bodyPost_ret (results_wd2 (t := 6) (u := 7) rfl _ rfl qB25) rfl ⟨rfl, G⟩

set_option maxRecDepth 20000 in
set_option maxHeartbeats 8000000 in
theorem specWStartS (i0 i1 i2 i3 room pipe : Int) (hi : IsWord i0) (h : ¬ (1 ≤ room ∧ room ≤ 4096)) (hq : ¬ (1 ≤ pipe ∧ pipe ≤ 2048)) (w : World) :
    Calls Try.prog 4 #[.agg #[.int .u32 i0, .int .u32 i1, .int .u32 i2, .int .u32 i3], .int .i64 room, .int .i64 pipe] w fun e w' => e = .returned (.tuple #[.agg (wdCells wdZero), .bool false]) ∧ Since w w' := by
  have hs := fun wx => specStartN i0 i1 room hi h wx
  have hp := fun wx => specRStart pipe wx
  unfold startV at hp
  rw [if_neg hq] at hp
  have G := Since.refl w
  go_enter Try.func4, Try.ntmps4
  go_upto_region 0 with (fail)
  refine vR ?_
  refine vW (w.alloc (.cells #[.int .u32 i0, .int .u32 i1, .int .u32 i2, .int .u32 i3] 23)) (.pointer (some ⟨w.heap.size, 0, none⟩)) ?_
  have qB2 := Blk.new w #[.int .u32 i0, .int .u32 i1, .int .u32 i2, .int .u32 i3] 23
  have qg3 := (Since.refl w).alloc (.cells #[.int .u32 i0, .int .u32 i1, .int .u32 i2, .int .u32 i3] 23)
  replace G := G.trans qg3
  generalize w.alloc (.cells #[.int .u32 i0, .int .u32 i1, .int .u32 i2, .int .u32 i3] 23) = qw1 at  G qB2 qg3 ⊢
  have qB2_l := qB2.lt
  have qg3_s := qg3.size
  refine vW (qw1.alloc (.cells (wdCells wdZero) 43)) (.pointer (some ⟨qw1.heap.size, 0, none⟩)) ?_
  have qB5 := Blk.new qw1 (wdCells wdZero) 43
  have qg6 := (Since.refl qw1).alloc (.cells (wdCells wdZero) 43)
  replace qB2 := qB2.since qg6
  replace G := G.trans qg6
  generalize qw1.alloc (.cells (wdCells wdZero) 43) = qw4 at qB2 G qB5 qg6 ⊢
  have qB5_l := qB5.lt
  have qg6_s := qg6.size
  refine vV (.bool false) ?_
  refine vE #[.agg #[.int .u32 i0, .int .u32 i1, .int .u32 i2, .int .u32 i3],.int .i64 room,.int .i64 pipe,.pointer (some ⟨w.heap.size, 0, none⟩),U,U,.pointer (some ⟨qw1.heap.size, 0, none⟩),.bool false,U,U,U,U,U,U,U,U,U,U,U,U,U,U,U,U,U,U,U,U,U,U,U,U,U,U,U,U,U,U,U,U] ?_
  go_upto_region 1 with (fail)
  refine vR ?_
  refine vV (.pointer (some ⟨w.heap.size, 0, none⟩)) ?_
  refine vD (.int .u32 i0) (qB2.cell 0) ?_
  refine vV (.pointer (some ⟨w.heap.size, 1, none⟩)) ?_
  refine vD (.int .u32 i1) (qB2.cell 1) ?_
  refine vV (.int .i64 room) ?_
  refine vK (hs _) ?_
  intro qw7 qg8
  replace qB2 := qB2.since qg8
  replace qB5 := qB5.since qg8
  replace G := G.trans qg8
  have qg8_s := qg8.size
  refine vV (.tuple #[.agg (prCells prZero), .bool false]) ?_
  refine vV (.agg (prCells prZero)) ?_
  refine vV (.bool false) ?_
  refine vW (qw7.alloc (.cells (prCells prZero) 37)) (.pointer (some ⟨qw7.heap.size, 0, none⟩)) ?_
  have qB10 := Blk.new qw7 (prCells prZero) 37
  have qg11 := (Since.refl qw7).alloc (.cells (prCells prZero) 37)
  replace qB2 := qB2.since qg11
  replace qB5 := qB5.since qg11
  replace G := G.trans qg11
  generalize qw7.alloc (.cells (prCells prZero) 37) = qw9 at qB2 qB5 G qB10 qg11 ⊢
  have qB10_l := qB10.lt
  have qg11_s := qg11.size
  refine sB (prCells prZero) pr_big qB10 (pr_size _) (pr_size _) (pr_one _) ?_
  intro qw12 qt13 qB14
  clear qB10
  replace qB2 := qB2.touch qt13 (by omega)
  replace qB5 := qB5.touch qt13 (by omega)
  replace G := since_touch G qt13 (by omega)
  have qt13_s := qt13.size
  refine vV (.bool false) ?_
  refine vE #[.agg #[.int .u32 i0, .int .u32 i1, .int .u32 i2, .int .u32 i3],.int .i64 room,.int .i64 pipe,.pointer (some ⟨w.heap.size, 0, none⟩),U,U,.pointer (some ⟨qw1.heap.size, 0, none⟩),.bool false,.pointer (some ⟨qw7.heap.size, 0, none⟩),.bool false,U,U,.tuple #[.agg (prCells prZero), .bool false],.pointer (some ⟨w.heap.size, 0, none⟩),.int .u32 i0,.pointer (some ⟨w.heap.size, 1, none⟩),.int .u32 i1,.int .i64 room,.tuple #[.agg (prCells prZero), .bool false],.agg (prCells prZero),.bool false,U,U,U,U,U,U,U,U,U,U,U,U,U,U,U,U,U,U,U] ?_
  go_upto_region 2 with (fail)
  refine vR ?_
  refine vV (.int .i64 pipe) ?_
  refine vK (hp _) ?_
  intro qw15 qg16
  replace qB2 := qB2.since qg16
  replace qB5 := qB5.since qg16
  replace qB14 := qB14.since qg16
  replace G := G.trans qg16
  have qg16_s := qg16.size
  refine vV (.tuple #[.agg #[.int .i64 0, .string ByteArray.empty, .bool false, .int .i64 0, .int .i64 0, .string ByteArray.empty, .bool false, .int .i64 0], .bool false]) ?_
  refine vV (.agg #[.int .i64 0, .string ByteArray.empty, .bool false, .int .i64 0, .int .i64 0, .string ByteArray.empty, .bool false, .int .i64 0]) ?_
  refine vV (.bool false) ?_
  refine vW (qw15.alloc (.cells #[.int .i64 0, .string ByteArray.empty, .bool false, .int .i64 0, .int .i64 0, .string ByteArray.empty, .bool false, .int .i64 0] 41)) (.pointer (some ⟨qw15.heap.size, 0, none⟩)) ?_
  have qB18 := Blk.new qw15 #[.int .i64 0, .string ByteArray.empty, .bool false, .int .i64 0, .int .i64 0, .string ByteArray.empty, .bool false, .int .i64 0] 41
  have qg19 := (Since.refl qw15).alloc (.cells #[.int .i64 0, .string ByteArray.empty, .bool false, .int .i64 0, .int .i64 0, .string ByteArray.empty, .bool false, .int .i64 0] 41)
  replace qB2 := qB2.since qg19
  replace qB5 := qB5.since qg19
  replace qB14 := qB14.since qg19
  replace G := G.trans qg19
  generalize qw15.alloc (.cells #[.int .i64 0, .string ByteArray.empty, .bool false, .int .i64 0, .int .i64 0, .string ByteArray.empty, .bool false, .int .i64 0] 41) = qw17 at qB2 qB5 qB14 G qB18 qg19 ⊢
  have qB18_l := qB18.lt
  have qg19_s := qg19.size
  refine sB #[.int .i64 0, .string ByteArray.empty, .bool false, .int .i64 0, .int .i64 0, .string ByteArray.empty, .bool false, .int .i64 0] rl_big qB18 rfl rfl (by simp [Value.oneCell']) ?_
  intro qw20 qt21 qB22
  clear qB18
  replace qB2 := qB2.touch qt21 (by omega)
  replace qB5 := qB5.touch qt21 (by omega)
  replace qB14 := qB14.touch qt21 (by omega)
  replace G := since_touch G qt21 (by omega)
  have qt21_s := qt21.size
  refine vV (.bool false) ?_
  refine vE #[.agg #[.int .u32 i0, .int .u32 i1, .int .u32 i2, .int .u32 i3],.int .i64 room,.int .i64 pipe,.pointer (some ⟨w.heap.size, 0, none⟩),U,U,.pointer (some ⟨qw1.heap.size, 0, none⟩),.bool false,.pointer (some ⟨qw7.heap.size, 0, none⟩),.bool false,.pointer (some ⟨qw15.heap.size, 0, none⟩),.bool false,.tuple #[.agg (prCells prZero), .bool false],.pointer (some ⟨w.heap.size, 0, none⟩),.int .u32 i0,.pointer (some ⟨w.heap.size, 1, none⟩),.int .u32 i1,.int .i64 room,.tuple #[.agg (prCells prZero), .bool false],.agg (prCells prZero),.bool false,.tuple #[.agg #[.int .i64 0, .string ByteArray.empty, .bool false, .int .i64 0, .int .i64 0, .string ByteArray.empty, .bool false, .int .i64 0], .bool false],.int .i64 pipe,.tuple #[.agg #[.int .i64 0, .string ByteArray.empty, .bool false, .int .i64 0, .int .i64 0, .string ByteArray.empty, .bool false, .int .i64 0], .bool false],.agg #[.int .i64 0, .string ByteArray.empty, .bool false, .int .i64 0, .int .i64 0, .string ByteArray.empty, .bool false, .int .i64 0],.bool false,U,U,U,U,U,U,U,U,U,U,U,U,U,U] ?_
  go_upto_region 3 with (fail)
  refine vR ?_
  refine vV (.bool false) ?_
  refine vV (.bool true) ?_
  refine vV (.bool true) ?_
  refine vS ?_
  refine vS ?_
  refine vV (.bool true) ?_
  refine vE #[.agg #[.int .u32 i0, .int .u32 i1, .int .u32 i2, .int .u32 i3],.int .i64 room,.int .i64 pipe,.pointer (some ⟨w.heap.size, 0, none⟩),U,U,.pointer (some ⟨qw1.heap.size, 0, none⟩),.bool false,.pointer (some ⟨qw7.heap.size, 0, none⟩),.bool false,.pointer (some ⟨qw15.heap.size, 0, none⟩),.bool false,.tuple #[.agg (prCells prZero), .bool false],.pointer (some ⟨w.heap.size, 0, none⟩),.int .u32 i0,.pointer (some ⟨w.heap.size, 1, none⟩),.int .u32 i1,.int .i64 room,.tuple #[.agg (prCells prZero), .bool false],.agg (prCells prZero),.bool false,.tuple #[.agg #[.int .i64 0, .string ByteArray.empty, .bool false, .int .i64 0, .int .i64 0, .string ByteArray.empty, .bool false, .int .i64 0], .bool false],.int .i64 pipe,.tuple #[.agg #[.int .i64 0, .string ByteArray.empty, .bool false, .int .i64 0, .int .i64 0, .string ByteArray.empty, .bool false, .int .i64 0], .bool false],.agg #[.int .i64 0, .string ByteArray.empty, .bool false, .int .i64 0, .int .i64 0, .string ByteArray.empty, .bool false, .int .i64 0],.bool false,.bool false,.bool true,.bool true,U,U,.bool true,U,U,U,U,U,U,U,U] ?_
  go_upto_region 4 with (fail)
  refine vR ?_
  refine vV (.agg (wdCells wdZero)) ?_
  refine sB (wdCells wdZero) wd_big qB5 (wd_size _) (wd_size _) (wd_one _) ?_
  intro qw23 qt24 qB25
  clear qB5
  replace qB2 := qB2.touch qt24 (by omega)
  replace qB14 := qB14.touch qt24 (by omega)
  replace qB22 := qB22.touch qt24 (by omega)
  replace G := since_touch G qt24 (by omega)
  have qt24_s := qt24.size
  refine vV (.bool false) ?_
  refine vE #[.agg #[.int .u32 i0, .int .u32 i1, .int .u32 i2, .int .u32 i3],.int .i64 room,.int .i64 pipe,.pointer (some ⟨w.heap.size, 0, none⟩),U,U,.pointer (some ⟨qw1.heap.size, 0, none⟩),.bool false,.pointer (some ⟨qw7.heap.size, 0, none⟩),.bool false,.pointer (some ⟨qw15.heap.size, 0, none⟩),.bool false,.tuple #[.agg (prCells prZero), .bool false],.pointer (some ⟨w.heap.size, 0, none⟩),.int .u32 i0,.pointer (some ⟨w.heap.size, 1, none⟩),.int .u32 i1,.int .i64 room,.tuple #[.agg (prCells prZero), .bool false],.agg (prCells prZero),.bool false,.tuple #[.agg #[.int .i64 0, .string ByteArray.empty, .bool false, .int .i64 0, .int .i64 0, .string ByteArray.empty, .bool false, .int .i64 0], .bool false],.int .i64 pipe,.tuple #[.agg #[.int .i64 0, .string ByteArray.empty, .bool false, .int .i64 0, .int .i64 0, .string ByteArray.empty, .bool false, .int .i64 0], .bool false],.agg #[.int .i64 0, .string ByteArray.empty, .bool false, .int .i64 0, .int .i64 0, .string ByteArray.empty, .bool false, .int .i64 0],.bool false,.bool false,.bool true,.bool true,U,U,.bool true,.agg (wdCells wdZero),U,U,U,U,U,U,U] ?_
  go_wp2_with (fail)
  exact bodyPost_ret (results_wd2 (t := 6) (u := 7) rfl _ rfl qB25) rfl ⟨rfl, G⟩

theorem specWStartN (i0 i1 i2 i3 room pipe : Int) (hi : IsWord i0) (h : ¬ ((1 ≤ room ∧ room ≤ 4096) ∧ (1 ≤ pipe ∧ pipe ≤ 2048))) (w : World) :
    Calls Try.prog 4 #[.agg #[.int .u32 i0, .int .u32 i1, .int .u32 i2, .int .u32 i3], .int .i64 room, .int .i64 pipe] w fun e w' => e = .returned (.tuple #[.agg (wdCells wdZero), .bool false]) ∧ Since w w' := by
  by_cases h1 : 1 ≤ room ∧ room ≤ 4096
  · exact specWStartQ i0 i1 i2 i3 room pipe hi h1 (fun q => h ⟨h1, q⟩) w
  · by_cases h2 : 1 ≤ pipe ∧ pipe ≤ 2048
    · exact specWStartR i0 i1 i2 i3 room pipe hi h1 h2 w
    · exact specWStartS i0 i1 i2 i3 room pipe hi h1 h2 w

set_option maxRecDepth 20000 in
set_option maxHeartbeats 8000000 in
theorem implWStartP (i0 i1 i2 i3 room pipe : Int) (hi : IsWord i0) (h : 1 ≤ room ∧ room ≤ 4096) (hq : 1 ≤ pipe ∧ pipe ≤ 2048) (w : World) :
    Calls Try.prog 6 #[.agg #[.int .u32 i0, .int .u32 i1, .int .u32 i2, .int .u32 i3], .int .i64 room, .int .i64 pipe] w fun e w' => ∃ g, e = .returned (.tuple #[.agg (wdCells ⟨⟨(startC 1 i0 room 0 0), cnZero, false, i1, room, some ⟨g, 0, none⟩, 1, 1, none, 0, 0, 0, ByteArray.empty, ByteArray.empty, ByteArray.empty, ByteArray.empty⟩, prZero, false, i2, i3, pipe, ByteArray.empty, false, 0, pipe, ByteArray.empty, false, 0⟩), .bool true]) ∧ Held shG w' w.heap.size g 1 1 [askSg i0 room] ∧ Since w w' := by
  have hs := fun wx => implStartP i0 i1 room hi h wx
  have hp := fun wx => implRStart pipe wx
  unfold startV at hp
  rw [if_pos hq] at hp
  generalize startC 1 i0 room 0 0 = C at hs ⊢
  generalize askSg i0 room = S at hs ⊢
  have G := Since.refl w
  go_enter Try.func6, Try.ntmps6
  go_upto_region 0 with (fail)
  refine vR ?_
  refine vW (w.alloc (.cells #[.int .u32 i0, .int .u32 i1, .int .u32 i2, .int .u32 i3] 23)) (.pointer (some ⟨w.heap.size, 0, none⟩)) ?_
  have qB2 := Blk.new w #[.int .u32 i0, .int .u32 i1, .int .u32 i2, .int .u32 i3] 23
  have qg3 := (Since.refl w).alloc (.cells #[.int .u32 i0, .int .u32 i1, .int .u32 i2, .int .u32 i3] 23)
  replace G := G.trans qg3
  generalize w.alloc (.cells #[.int .u32 i0, .int .u32 i1, .int .u32 i2, .int .u32 i3] 23) = qw1 at  G qB2 qg3 ⊢
  have qB2_l := qB2.lt
  have qg3_s := qg3.size
  refine vW (qw1.alloc (.cells (wdCells wdZero) 43)) (.pointer (some ⟨qw1.heap.size, 0, none⟩)) ?_
  have qB5 := Blk.new qw1 (wdCells wdZero) 43
  have qg6 := (Since.refl qw1).alloc (.cells (wdCells wdZero) 43)
  replace qB2 := qB2.since qg6
  replace G := G.trans qg6
  generalize qw1.alloc (.cells (wdCells wdZero) 43) = qw4 at qB2 G qB5 qg6 ⊢
  have qB5_l := qB5.lt
  have qg6_s := qg6.size
  refine vV (.bool false) ?_
  refine vE #[.agg #[.int .u32 i0, .int .u32 i1, .int .u32 i2, .int .u32 i3],.int .i64 room,.int .i64 pipe,.pointer (some ⟨w.heap.size, 0, none⟩),U,U,.pointer (some ⟨qw1.heap.size, 0, none⟩),.bool false,U,U,U,U,U,U,U,U,U,U,U,U,U,U,U,U,U,U,U,U,U,U,U,U,U,U,U,U,U,U,U,U] ?_
  go_upto_region 1 with (fail)
  refine vR ?_
  refine vV (.pointer (some ⟨w.heap.size, 0, none⟩)) ?_
  refine vD (.int .u32 i0) (qB2.cell 0) ?_
  refine vV (.pointer (some ⟨w.heap.size, 1, none⟩)) ?_
  refine vD (.int .u32 i1) (qB2.cell 1) ?_
  refine vV (.int .i64 room) ?_
  refine vC (hs _) ?_
  rintro _ qw7 ⟨g1, rfl, H1, qg8⟩
  refine ⟨_, rfl, ?_⟩
  replace qB2 := qB2.since qg8
  replace qB5 := qB5.since qg8
  replace G := G.trans qg8
  have qg8_s := qg8.size
  have H1_0 := H1.low'
  replace H1 := H1.raise (show w.heap.size ≤ g1 by omega)
  have H1_1 := H1.lt
  refine vV (.tuple #[.agg (prCells ⟨C, cnZero, false, i1, room, some ⟨g1, 0, none⟩, 1, 1, none, 0, 0, 0, ByteArray.empty, ByteArray.empty, ByteArray.empty, ByteArray.empty⟩), .bool true]) ?_
  refine vV (.agg (prCells ⟨C, cnZero, false, i1, room, some ⟨g1, 0, none⟩, 1, 1, none, 0, 0, 0, ByteArray.empty, ByteArray.empty, ByteArray.empty, ByteArray.empty⟩)) ?_
  refine vV (.bool true) ?_
  refine vW (qw7.alloc (.cells (prCells prZero) 37)) (.pointer (some ⟨qw7.heap.size, 0, none⟩)) ?_
  have qB10 := Blk.new qw7 (prCells prZero) 37
  have qg11 := (Since.refl qw7).alloc (.cells (prCells prZero) 37)
  replace qB2 := qB2.since qg11
  replace qB5 := qB5.since qg11
  replace H1 := H1.since qg11
  replace G := G.trans qg11
  generalize qw7.alloc (.cells (prCells prZero) 37) = qw9 at qB2 qB5 H1 G qB10 qg11 ⊢
  have qB10_l := qB10.lt
  have qg11_s := qg11.size
  refine sB (prCells ⟨C, cnZero, false, i1, room, some ⟨g1, 0, none⟩, 1, 1, none, 0, 0, 0, ByteArray.empty, ByteArray.empty, ByteArray.empty, ByteArray.empty⟩) pr_big qB10 (pr_size _) (pr_size _) (pr_one _) ?_
  intro qw12 qt13 qB14
  clear qB10
  replace qB2 := qB2.touch qt13 (by omega)
  replace qB5 := qB5.touch qt13 (by omega)
  replace H1 := H1.touch qt13 (by omega)
  replace G := since_touch G qt13 (by omega)
  have qt13_s := qt13.size
  refine vV (.bool true) ?_
  refine vE #[.agg #[.int .u32 i0, .int .u32 i1, .int .u32 i2, .int .u32 i3],.int .i64 room,.int .i64 pipe,.pointer (some ⟨w.heap.size, 0, none⟩),U,U,.pointer (some ⟨qw1.heap.size, 0, none⟩),.bool false,.pointer (some ⟨qw7.heap.size, 0, none⟩),.bool true,U,U,.tuple #[.agg (prCells ⟨C, cnZero, false, i1, room, some ⟨g1, 0, none⟩, 1, 1, none, 0, 0, 0, ByteArray.empty, ByteArray.empty, ByteArray.empty, ByteArray.empty⟩), .bool true],.pointer (some ⟨w.heap.size, 0, none⟩),.int .u32 i0,.pointer (some ⟨w.heap.size, 1, none⟩),.int .u32 i1,.int .i64 room,.tuple #[.agg (prCells ⟨C, cnZero, false, i1, room, some ⟨g1, 0, none⟩, 1, 1, none, 0, 0, 0, ByteArray.empty, ByteArray.empty, ByteArray.empty, ByteArray.empty⟩), .bool true],.agg (prCells ⟨C, cnZero, false, i1, room, some ⟨g1, 0, none⟩, 1, 1, none, 0, 0, 0, ByteArray.empty, ByteArray.empty, ByteArray.empty, ByteArray.empty⟩),.bool true,U,U,U,U,U,U,U,U,U,U,U,U,U,U,U,U,U,U,U] ?_
  go_upto_region 2 with (fail)
  refine vR ?_
  refine vV (.int .i64 pipe) ?_
  refine vK (hp _) ?_
  intro qw15 qg16
  replace qB2 := qB2.since qg16
  replace qB5 := qB5.since qg16
  replace qB14 := qB14.since qg16
  replace H1 := H1.since qg16
  replace G := G.trans qg16
  have qg16_s := qg16.size
  refine vV (.tuple #[.agg #[.int .i64 pipe, .string ByteArray.empty, .bool false, .int .i64 0, .int .i64 pipe, .string ByteArray.empty, .bool false, .int .i64 0], .bool true]) ?_
  refine vV (.agg #[.int .i64 pipe, .string ByteArray.empty, .bool false, .int .i64 0, .int .i64 pipe, .string ByteArray.empty, .bool false, .int .i64 0]) ?_
  refine vV (.bool true) ?_
  refine vW (qw15.alloc (.cells #[.int .i64 0, .string ByteArray.empty, .bool false, .int .i64 0, .int .i64 0, .string ByteArray.empty, .bool false, .int .i64 0] 41)) (.pointer (some ⟨qw15.heap.size, 0, none⟩)) ?_
  have qB18 := Blk.new qw15 #[.int .i64 0, .string ByteArray.empty, .bool false, .int .i64 0, .int .i64 0, .string ByteArray.empty, .bool false, .int .i64 0] 41
  have qg19 := (Since.refl qw15).alloc (.cells #[.int .i64 0, .string ByteArray.empty, .bool false, .int .i64 0, .int .i64 0, .string ByteArray.empty, .bool false, .int .i64 0] 41)
  replace qB2 := qB2.since qg19
  replace qB5 := qB5.since qg19
  replace qB14 := qB14.since qg19
  replace H1 := H1.since qg19
  replace G := G.trans qg19
  generalize qw15.alloc (.cells #[.int .i64 0, .string ByteArray.empty, .bool false, .int .i64 0, .int .i64 0, .string ByteArray.empty, .bool false, .int .i64 0] 41) = qw17 at qB2 qB5 qB14 H1 G qB18 qg19 ⊢
  have qB18_l := qB18.lt
  have qg19_s := qg19.size
  refine sB #[.int .i64 pipe, .string ByteArray.empty, .bool false, .int .i64 0, .int .i64 pipe, .string ByteArray.empty, .bool false, .int .i64 0] rl_big qB18 rfl rfl (by simp [Value.oneCell']) ?_
  intro qw20 qt21 qB22
  clear qB18
  replace qB2 := qB2.touch qt21 (by omega)
  replace qB5 := qB5.touch qt21 (by omega)
  replace qB14 := qB14.touch qt21 (by omega)
  replace H1 := H1.touch qt21 (by omega)
  replace G := since_touch G qt21 (by omega)
  have qt21_s := qt21.size
  refine vV (.bool true) ?_
  refine vE #[.agg #[.int .u32 i0, .int .u32 i1, .int .u32 i2, .int .u32 i3],.int .i64 room,.int .i64 pipe,.pointer (some ⟨w.heap.size, 0, none⟩),U,U,.pointer (some ⟨qw1.heap.size, 0, none⟩),.bool false,.pointer (some ⟨qw7.heap.size, 0, none⟩),.bool true,.pointer (some ⟨qw15.heap.size, 0, none⟩),.bool true,.tuple #[.agg (prCells ⟨C, cnZero, false, i1, room, some ⟨g1, 0, none⟩, 1, 1, none, 0, 0, 0, ByteArray.empty, ByteArray.empty, ByteArray.empty, ByteArray.empty⟩), .bool true],.pointer (some ⟨w.heap.size, 0, none⟩),.int .u32 i0,.pointer (some ⟨w.heap.size, 1, none⟩),.int .u32 i1,.int .i64 room,.tuple #[.agg (prCells ⟨C, cnZero, false, i1, room, some ⟨g1, 0, none⟩, 1, 1, none, 0, 0, 0, ByteArray.empty, ByteArray.empty, ByteArray.empty, ByteArray.empty⟩), .bool true],.agg (prCells ⟨C, cnZero, false, i1, room, some ⟨g1, 0, none⟩, 1, 1, none, 0, 0, 0, ByteArray.empty, ByteArray.empty, ByteArray.empty, ByteArray.empty⟩),.bool true,.tuple #[.agg #[.int .i64 pipe, .string ByteArray.empty, .bool false, .int .i64 0, .int .i64 pipe, .string ByteArray.empty, .bool false, .int .i64 0], .bool true],.int .i64 pipe,.tuple #[.agg #[.int .i64 pipe, .string ByteArray.empty, .bool false, .int .i64 0, .int .i64 pipe, .string ByteArray.empty, .bool false, .int .i64 0], .bool true],.agg #[.int .i64 pipe, .string ByteArray.empty, .bool false, .int .i64 0, .int .i64 pipe, .string ByteArray.empty, .bool false, .int .i64 0],.bool true,U,U,U,U,U,U,U,U,U,U,U,U,U,U] ?_
  go_upto_region 3 with (fail)
  refine vR ?_
  refine vV (.bool true) ?_
  refine vV (.bool false) ?_
  refine vV (.bool false) ?_
  refine vV (.bool true) ?_
  refine vV (.bool false) ?_
  refine vV (.bool false) ?_
  refine vE #[.agg #[.int .u32 i0, .int .u32 i1, .int .u32 i2, .int .u32 i3],.int .i64 room,.int .i64 pipe,.pointer (some ⟨w.heap.size, 0, none⟩),U,U,.pointer (some ⟨qw1.heap.size, 0, none⟩),.bool false,.pointer (some ⟨qw7.heap.size, 0, none⟩),.bool true,.pointer (some ⟨qw15.heap.size, 0, none⟩),.bool true,.tuple #[.agg (prCells ⟨C, cnZero, false, i1, room, some ⟨g1, 0, none⟩, 1, 1, none, 0, 0, 0, ByteArray.empty, ByteArray.empty, ByteArray.empty, ByteArray.empty⟩), .bool true],.pointer (some ⟨w.heap.size, 0, none⟩),.int .u32 i0,.pointer (some ⟨w.heap.size, 1, none⟩),.int .u32 i1,.int .i64 room,.tuple #[.agg (prCells ⟨C, cnZero, false, i1, room, some ⟨g1, 0, none⟩, 1, 1, none, 0, 0, 0, ByteArray.empty, ByteArray.empty, ByteArray.empty, ByteArray.empty⟩), .bool true],.agg (prCells ⟨C, cnZero, false, i1, room, some ⟨g1, 0, none⟩, 1, 1, none, 0, 0, 0, ByteArray.empty, ByteArray.empty, ByteArray.empty, ByteArray.empty⟩),.bool true,.tuple #[.agg #[.int .i64 pipe, .string ByteArray.empty, .bool false, .int .i64 0, .int .i64 pipe, .string ByteArray.empty, .bool false, .int .i64 0], .bool true],.int .i64 pipe,.tuple #[.agg #[.int .i64 pipe, .string ByteArray.empty, .bool false, .int .i64 0, .int .i64 pipe, .string ByteArray.empty, .bool false, .int .i64 0], .bool true],.agg #[.int .i64 pipe, .string ByteArray.empty, .bool false, .int .i64 0, .int .i64 pipe, .string ByteArray.empty, .bool false, .int .i64 0],.bool true,.bool true,.bool false,.bool false,.bool true,.bool false,.bool false,U,U,U,U,U,U,U,U] ?_
  go_upto_region 5 with (fail)
  refine vR ?_
  refine vB pr_big qB14 (pr_size _) ?_
  refine vV (.pointer (some ⟨w.heap.size, 2, none⟩)) ?_
  refine vD (.int .u32 i2) (qB2.cell 2) ?_
  refine vV (.pointer (some ⟨w.heap.size, 3, none⟩)) ?_
  refine vD (.int .u32 i3) (qB2.cell 3) ?_
  refine vB rl_big qB22 rfl ?_
  refine vV (.agg (wdCells ⟨⟨C, cnZero, false, i1, room, some ⟨g1, 0, none⟩, 1, 1, none, 0, 0, 0, ByteArray.empty, ByteArray.empty, ByteArray.empty, ByteArray.empty⟩, prZero, false, i2, i3, pipe, ByteArray.empty, false, 0, pipe, ByteArray.empty, false, 0⟩)) ?_
  refine sB (wdCells ⟨⟨C, cnZero, false, i1, room, some ⟨g1, 0, none⟩, 1, 1, none, 0, 0, 0, ByteArray.empty, ByteArray.empty, ByteArray.empty, ByteArray.empty⟩, prZero, false, i2, i3, pipe, ByteArray.empty, false, 0, pipe, ByteArray.empty, false, 0⟩) wd_big qB5 (wd_size _) (wd_size _) (wd_one _) ?_
  intro qw23 qt24 qB25
  clear qB5
  replace qB2 := qB2.touch qt24 (by omega)
  replace qB14 := qB14.touch qt24 (by omega)
  replace qB22 := qB22.touch qt24 (by omega)
  replace H1 := H1.touch qt24 (by omega)
  replace G := since_touch G qt24 (by omega)
  have qt24_s := qt24.size
  refine vV (.bool true) ?_
  refine vE #[.agg #[.int .u32 i0, .int .u32 i1, .int .u32 i2, .int .u32 i3],.int .i64 room,.int .i64 pipe,.pointer (some ⟨w.heap.size, 0, none⟩),U,U,.pointer (some ⟨qw1.heap.size, 0, none⟩),.bool true,.pointer (some ⟨qw7.heap.size, 0, none⟩),.bool true,.pointer (some ⟨qw15.heap.size, 0, none⟩),.bool true,.tuple #[.agg (prCells ⟨C, cnZero, false, i1, room, some ⟨g1, 0, none⟩, 1, 1, none, 0, 0, 0, ByteArray.empty, ByteArray.empty, ByteArray.empty, ByteArray.empty⟩), .bool true],.pointer (some ⟨w.heap.size, 0, none⟩),.int .u32 i0,.pointer (some ⟨w.heap.size, 1, none⟩),.int .u32 i1,.int .i64 room,.tuple #[.agg (prCells ⟨C, cnZero, false, i1, room, some ⟨g1, 0, none⟩, 1, 1, none, 0, 0, 0, ByteArray.empty, ByteArray.empty, ByteArray.empty, ByteArray.empty⟩), .bool true],.agg (prCells ⟨C, cnZero, false, i1, room, some ⟨g1, 0, none⟩, 1, 1, none, 0, 0, 0, ByteArray.empty, ByteArray.empty, ByteArray.empty, ByteArray.empty⟩),.bool true,.tuple #[.agg #[.int .i64 pipe, .string ByteArray.empty, .bool false, .int .i64 0, .int .i64 pipe, .string ByteArray.empty, .bool false, .int .i64 0], .bool true],.int .i64 pipe,.tuple #[.agg #[.int .i64 pipe, .string ByteArray.empty, .bool false, .int .i64 0, .int .i64 pipe, .string ByteArray.empty, .bool false, .int .i64 0], .bool true],.agg #[.int .i64 pipe, .string ByteArray.empty, .bool false, .int .i64 0, .int .i64 pipe, .string ByteArray.empty, .bool false, .int .i64 0],.bool true,.bool true,.bool false,.bool false,.bool true,.bool false,.bool false,U,.agg (prCells ⟨C, cnZero, false, i1, room, some ⟨g1, 0, none⟩, 1, 1, none, 0, 0, 0, ByteArray.empty, ByteArray.empty, ByteArray.empty, ByteArray.empty⟩),.pointer (some ⟨w.heap.size, 2, none⟩),.int .u32 i2,.pointer (some ⟨w.heap.size, 3, none⟩),.int .u32 i3,.agg #[.int .i64 pipe, .string ByteArray.empty, .bool false, .int .i64 0, .int .i64 pipe, .string ByteArray.empty, .bool false, .int .i64 0],.agg (wdCells ⟨⟨C, cnZero, false, i1, room, some ⟨g1, 0, none⟩, 1, 1, none, 0, 0, 0, ByteArray.empty, ByteArray.empty, ByteArray.empty, ByteArray.empty⟩, prZero, false, i2, i3, pipe, ByteArray.empty, false, 0, pipe, ByteArray.empty, false, 0⟩)] ?_
  go_wp2_with (fail)
  exact bodyPost_ret (results_wd2 (t := 6) (u := 7) rfl _ rfl qB25) rfl ⟨_, rfl, H1.raise (by omega), G⟩

set_option maxRecDepth 20000 in
set_option maxHeartbeats 8000000 in
theorem implWStartQ (i0 i1 i2 i3 room pipe : Int) (hi : IsWord i0) (h : 1 ≤ room ∧ room ≤ 4096) (hq : ¬ (1 ≤ pipe ∧ pipe ≤ 2048)) (w : World) :
    Calls Try.prog 6 #[.agg #[.int .u32 i0, .int .u32 i1, .int .u32 i2, .int .u32 i3], .int .i64 room, .int .i64 pipe] w fun e w' => e = .returned (.tuple #[.agg (wdCells wdZero), .bool false]) ∧ Since w w' := by
  have hs := fun wx => implStartP i0 i1 room hi h wx
  have hp := fun wx => implRStart pipe wx
  unfold startV at hp
  rw [if_neg hq] at hp
  generalize startC 1 i0 room 0 0 = C at hs
  generalize askSg i0 room = S at hs
  have G := Since.refl w
  go_enter Try.func6, Try.ntmps6
  go_upto_region 0 with (fail)
  refine vR ?_
  refine vW (w.alloc (.cells #[.int .u32 i0, .int .u32 i1, .int .u32 i2, .int .u32 i3] 23)) (.pointer (some ⟨w.heap.size, 0, none⟩)) ?_
  have qB2 := Blk.new w #[.int .u32 i0, .int .u32 i1, .int .u32 i2, .int .u32 i3] 23
  have qg3 := (Since.refl w).alloc (.cells #[.int .u32 i0, .int .u32 i1, .int .u32 i2, .int .u32 i3] 23)
  replace G := G.trans qg3
  generalize w.alloc (.cells #[.int .u32 i0, .int .u32 i1, .int .u32 i2, .int .u32 i3] 23) = qw1 at  G qB2 qg3 ⊢
  have qB2_l := qB2.lt
  have qg3_s := qg3.size
  refine vW (qw1.alloc (.cells (wdCells wdZero) 43)) (.pointer (some ⟨qw1.heap.size, 0, none⟩)) ?_
  have qB5 := Blk.new qw1 (wdCells wdZero) 43
  have qg6 := (Since.refl qw1).alloc (.cells (wdCells wdZero) 43)
  replace qB2 := qB2.since qg6
  replace G := G.trans qg6
  generalize qw1.alloc (.cells (wdCells wdZero) 43) = qw4 at qB2 G qB5 qg6 ⊢
  have qB5_l := qB5.lt
  have qg6_s := qg6.size
  refine vV (.bool false) ?_
  refine vE #[.agg #[.int .u32 i0, .int .u32 i1, .int .u32 i2, .int .u32 i3],.int .i64 room,.int .i64 pipe,.pointer (some ⟨w.heap.size, 0, none⟩),U,U,.pointer (some ⟨qw1.heap.size, 0, none⟩),.bool false,U,U,U,U,U,U,U,U,U,U,U,U,U,U,U,U,U,U,U,U,U,U,U,U,U,U,U,U,U,U,U,U] ?_
  go_upto_region 1 with (fail)
  refine vR ?_
  refine vV (.pointer (some ⟨w.heap.size, 0, none⟩)) ?_
  refine vD (.int .u32 i0) (qB2.cell 0) ?_
  refine vV (.pointer (some ⟨w.heap.size, 1, none⟩)) ?_
  refine vD (.int .u32 i1) (qB2.cell 1) ?_
  refine vV (.int .i64 room) ?_
  refine vC (hs _) ?_
  rintro _ qw7 ⟨g1, rfl, H1, qg8⟩
  refine ⟨_, rfl, ?_⟩
  replace qB2 := qB2.since qg8
  replace qB5 := qB5.since qg8
  replace G := G.trans qg8
  have qg8_s := qg8.size
  have H1_0 := H1.low'
  replace H1 := H1.raise (show w.heap.size ≤ g1 by omega)
  have H1_1 := H1.lt
  refine vV (.tuple #[.agg (prCells ⟨C, cnZero, false, i1, room, some ⟨g1, 0, none⟩, 1, 1, none, 0, 0, 0, ByteArray.empty, ByteArray.empty, ByteArray.empty, ByteArray.empty⟩), .bool true]) ?_
  refine vV (.agg (prCells ⟨C, cnZero, false, i1, room, some ⟨g1, 0, none⟩, 1, 1, none, 0, 0, 0, ByteArray.empty, ByteArray.empty, ByteArray.empty, ByteArray.empty⟩)) ?_
  refine vV (.bool true) ?_
  refine vW (qw7.alloc (.cells (prCells prZero) 37)) (.pointer (some ⟨qw7.heap.size, 0, none⟩)) ?_
  have qB10 := Blk.new qw7 (prCells prZero) 37
  have qg11 := (Since.refl qw7).alloc (.cells (prCells prZero) 37)
  replace qB2 := qB2.since qg11
  replace qB5 := qB5.since qg11
  replace H1 := H1.since qg11
  replace G := G.trans qg11
  generalize qw7.alloc (.cells (prCells prZero) 37) = qw9 at qB2 qB5 H1 G qB10 qg11 ⊢
  have qB10_l := qB10.lt
  have qg11_s := qg11.size
  refine sB (prCells ⟨C, cnZero, false, i1, room, some ⟨g1, 0, none⟩, 1, 1, none, 0, 0, 0, ByteArray.empty, ByteArray.empty, ByteArray.empty, ByteArray.empty⟩) pr_big qB10 (pr_size _) (pr_size _) (pr_one _) ?_
  intro qw12 qt13 qB14
  clear qB10
  replace qB2 := qB2.touch qt13 (by omega)
  replace qB5 := qB5.touch qt13 (by omega)
  replace H1 := H1.touch qt13 (by omega)
  replace G := since_touch G qt13 (by omega)
  have qt13_s := qt13.size
  refine vV (.bool true) ?_
  refine vE #[.agg #[.int .u32 i0, .int .u32 i1, .int .u32 i2, .int .u32 i3],.int .i64 room,.int .i64 pipe,.pointer (some ⟨w.heap.size, 0, none⟩),U,U,.pointer (some ⟨qw1.heap.size, 0, none⟩),.bool false,.pointer (some ⟨qw7.heap.size, 0, none⟩),.bool true,U,U,.tuple #[.agg (prCells ⟨C, cnZero, false, i1, room, some ⟨g1, 0, none⟩, 1, 1, none, 0, 0, 0, ByteArray.empty, ByteArray.empty, ByteArray.empty, ByteArray.empty⟩), .bool true],.pointer (some ⟨w.heap.size, 0, none⟩),.int .u32 i0,.pointer (some ⟨w.heap.size, 1, none⟩),.int .u32 i1,.int .i64 room,.tuple #[.agg (prCells ⟨C, cnZero, false, i1, room, some ⟨g1, 0, none⟩, 1, 1, none, 0, 0, 0, ByteArray.empty, ByteArray.empty, ByteArray.empty, ByteArray.empty⟩), .bool true],.agg (prCells ⟨C, cnZero, false, i1, room, some ⟨g1, 0, none⟩, 1, 1, none, 0, 0, 0, ByteArray.empty, ByteArray.empty, ByteArray.empty, ByteArray.empty⟩),.bool true,U,U,U,U,U,U,U,U,U,U,U,U,U,U,U,U,U,U,U] ?_
  go_upto_region 2 with (fail)
  refine vR ?_
  refine vV (.int .i64 pipe) ?_
  refine vK (hp _) ?_
  intro qw15 qg16
  replace qB2 := qB2.since qg16
  replace qB5 := qB5.since qg16
  replace qB14 := qB14.since qg16
  replace H1 := H1.since qg16
  replace G := G.trans qg16
  have qg16_s := qg16.size
  refine vV (.tuple #[.agg #[.int .i64 0, .string ByteArray.empty, .bool false, .int .i64 0, .int .i64 0, .string ByteArray.empty, .bool false, .int .i64 0], .bool false]) ?_
  refine vV (.agg #[.int .i64 0, .string ByteArray.empty, .bool false, .int .i64 0, .int .i64 0, .string ByteArray.empty, .bool false, .int .i64 0]) ?_
  refine vV (.bool false) ?_
  refine vW (qw15.alloc (.cells #[.int .i64 0, .string ByteArray.empty, .bool false, .int .i64 0, .int .i64 0, .string ByteArray.empty, .bool false, .int .i64 0] 41)) (.pointer (some ⟨qw15.heap.size, 0, none⟩)) ?_
  have qB18 := Blk.new qw15 #[.int .i64 0, .string ByteArray.empty, .bool false, .int .i64 0, .int .i64 0, .string ByteArray.empty, .bool false, .int .i64 0] 41
  have qg19 := (Since.refl qw15).alloc (.cells #[.int .i64 0, .string ByteArray.empty, .bool false, .int .i64 0, .int .i64 0, .string ByteArray.empty, .bool false, .int .i64 0] 41)
  replace qB2 := qB2.since qg19
  replace qB5 := qB5.since qg19
  replace qB14 := qB14.since qg19
  replace H1 := H1.since qg19
  replace G := G.trans qg19
  generalize qw15.alloc (.cells #[.int .i64 0, .string ByteArray.empty, .bool false, .int .i64 0, .int .i64 0, .string ByteArray.empty, .bool false, .int .i64 0] 41) = qw17 at qB2 qB5 qB14 H1 G qB18 qg19 ⊢
  have qB18_l := qB18.lt
  have qg19_s := qg19.size
  refine sB #[.int .i64 0, .string ByteArray.empty, .bool false, .int .i64 0, .int .i64 0, .string ByteArray.empty, .bool false, .int .i64 0] rl_big qB18 rfl rfl (by simp [Value.oneCell']) ?_
  intro qw20 qt21 qB22
  clear qB18
  replace qB2 := qB2.touch qt21 (by omega)
  replace qB5 := qB5.touch qt21 (by omega)
  replace qB14 := qB14.touch qt21 (by omega)
  replace H1 := H1.touch qt21 (by omega)
  replace G := since_touch G qt21 (by omega)
  have qt21_s := qt21.size
  refine vV (.bool false) ?_
  refine vE #[.agg #[.int .u32 i0, .int .u32 i1, .int .u32 i2, .int .u32 i3],.int .i64 room,.int .i64 pipe,.pointer (some ⟨w.heap.size, 0, none⟩),U,U,.pointer (some ⟨qw1.heap.size, 0, none⟩),.bool false,.pointer (some ⟨qw7.heap.size, 0, none⟩),.bool true,.pointer (some ⟨qw15.heap.size, 0, none⟩),.bool false,.tuple #[.agg (prCells ⟨C, cnZero, false, i1, room, some ⟨g1, 0, none⟩, 1, 1, none, 0, 0, 0, ByteArray.empty, ByteArray.empty, ByteArray.empty, ByteArray.empty⟩), .bool true],.pointer (some ⟨w.heap.size, 0, none⟩),.int .u32 i0,.pointer (some ⟨w.heap.size, 1, none⟩),.int .u32 i1,.int .i64 room,.tuple #[.agg (prCells ⟨C, cnZero, false, i1, room, some ⟨g1, 0, none⟩, 1, 1, none, 0, 0, 0, ByteArray.empty, ByteArray.empty, ByteArray.empty, ByteArray.empty⟩), .bool true],.agg (prCells ⟨C, cnZero, false, i1, room, some ⟨g1, 0, none⟩, 1, 1, none, 0, 0, 0, ByteArray.empty, ByteArray.empty, ByteArray.empty, ByteArray.empty⟩),.bool true,.tuple #[.agg #[.int .i64 0, .string ByteArray.empty, .bool false, .int .i64 0, .int .i64 0, .string ByteArray.empty, .bool false, .int .i64 0], .bool false],.int .i64 pipe,.tuple #[.agg #[.int .i64 0, .string ByteArray.empty, .bool false, .int .i64 0, .int .i64 0, .string ByteArray.empty, .bool false, .int .i64 0], .bool false],.agg #[.int .i64 0, .string ByteArray.empty, .bool false, .int .i64 0, .int .i64 0, .string ByteArray.empty, .bool false, .int .i64 0],.bool false,U,U,U,U,U,U,U,U,U,U,U,U,U,U] ?_
  go_upto_region 3 with (fail)
  refine vR ?_
  refine vV (.bool true) ?_
  refine vV (.bool false) ?_
  refine vV (.bool false) ?_
  refine vV (.bool false) ?_
  refine vV (.bool true) ?_
  refine vV (.bool true) ?_
  refine vE #[.agg #[.int .u32 i0, .int .u32 i1, .int .u32 i2, .int .u32 i3],.int .i64 room,.int .i64 pipe,.pointer (some ⟨w.heap.size, 0, none⟩),U,U,.pointer (some ⟨qw1.heap.size, 0, none⟩),.bool false,.pointer (some ⟨qw7.heap.size, 0, none⟩),.bool true,.pointer (some ⟨qw15.heap.size, 0, none⟩),.bool false,.tuple #[.agg (prCells ⟨C, cnZero, false, i1, room, some ⟨g1, 0, none⟩, 1, 1, none, 0, 0, 0, ByteArray.empty, ByteArray.empty, ByteArray.empty, ByteArray.empty⟩), .bool true],.pointer (some ⟨w.heap.size, 0, none⟩),.int .u32 i0,.pointer (some ⟨w.heap.size, 1, none⟩),.int .u32 i1,.int .i64 room,.tuple #[.agg (prCells ⟨C, cnZero, false, i1, room, some ⟨g1, 0, none⟩, 1, 1, none, 0, 0, 0, ByteArray.empty, ByteArray.empty, ByteArray.empty, ByteArray.empty⟩), .bool true],.agg (prCells ⟨C, cnZero, false, i1, room, some ⟨g1, 0, none⟩, 1, 1, none, 0, 0, 0, ByteArray.empty, ByteArray.empty, ByteArray.empty, ByteArray.empty⟩),.bool true,.tuple #[.agg #[.int .i64 0, .string ByteArray.empty, .bool false, .int .i64 0, .int .i64 0, .string ByteArray.empty, .bool false, .int .i64 0], .bool false],.int .i64 pipe,.tuple #[.agg #[.int .i64 0, .string ByteArray.empty, .bool false, .int .i64 0, .int .i64 0, .string ByteArray.empty, .bool false, .int .i64 0], .bool false],.agg #[.int .i64 0, .string ByteArray.empty, .bool false, .int .i64 0, .int .i64 0, .string ByteArray.empty, .bool false, .int .i64 0],.bool false,.bool true,.bool false,.bool false,.bool false,.bool true,.bool true,U,U,U,U,U,U,U,U] ?_
  go_upto_region 4 with (fail)
  refine vR ?_
  refine vV (.agg (wdCells wdZero)) ?_
  refine sB (wdCells wdZero) wd_big qB5 (wd_size _) (wd_size _) (wd_one _) ?_
  intro qw23 qt24 qB25
  clear qB5
  replace qB2 := qB2.touch qt24 (by omega)
  replace qB14 := qB14.touch qt24 (by omega)
  replace qB22 := qB22.touch qt24 (by omega)
  replace H1 := H1.touch qt24 (by omega)
  replace G := since_touch G qt24 (by omega)
  have qt24_s := qt24.size
  refine vV (.bool false) ?_
  refine vE #[.agg #[.int .u32 i0, .int .u32 i1, .int .u32 i2, .int .u32 i3],.int .i64 room,.int .i64 pipe,.pointer (some ⟨w.heap.size, 0, none⟩),U,U,.pointer (some ⟨qw1.heap.size, 0, none⟩),.bool false,.pointer (some ⟨qw7.heap.size, 0, none⟩),.bool true,.pointer (some ⟨qw15.heap.size, 0, none⟩),.bool false,.tuple #[.agg (prCells ⟨C, cnZero, false, i1, room, some ⟨g1, 0, none⟩, 1, 1, none, 0, 0, 0, ByteArray.empty, ByteArray.empty, ByteArray.empty, ByteArray.empty⟩), .bool true],.pointer (some ⟨w.heap.size, 0, none⟩),.int .u32 i0,.pointer (some ⟨w.heap.size, 1, none⟩),.int .u32 i1,.int .i64 room,.tuple #[.agg (prCells ⟨C, cnZero, false, i1, room, some ⟨g1, 0, none⟩, 1, 1, none, 0, 0, 0, ByteArray.empty, ByteArray.empty, ByteArray.empty, ByteArray.empty⟩), .bool true],.agg (prCells ⟨C, cnZero, false, i1, room, some ⟨g1, 0, none⟩, 1, 1, none, 0, 0, 0, ByteArray.empty, ByteArray.empty, ByteArray.empty, ByteArray.empty⟩),.bool true,.tuple #[.agg #[.int .i64 0, .string ByteArray.empty, .bool false, .int .i64 0, .int .i64 0, .string ByteArray.empty, .bool false, .int .i64 0], .bool false],.int .i64 pipe,.tuple #[.agg #[.int .i64 0, .string ByteArray.empty, .bool false, .int .i64 0, .int .i64 0, .string ByteArray.empty, .bool false, .int .i64 0], .bool false],.agg #[.int .i64 0, .string ByteArray.empty, .bool false, .int .i64 0, .int .i64 0, .string ByteArray.empty, .bool false, .int .i64 0],.bool false,.bool true,.bool false,.bool false,.bool false,.bool true,.bool true,.agg (wdCells wdZero),U,U,U,U,U,U,U] ?_
  go_wp2_with (fail)
  exact bodyPost_ret (results_wd2 (t := 6) (u := 7) rfl _ rfl qB25) rfl ⟨rfl, G⟩

set_option maxRecDepth 20000 in
set_option maxHeartbeats 8000000 in
theorem implWStartR (i0 i1 i2 i3 room pipe : Int) (hi : IsWord i0) (h : ¬ (1 ≤ room ∧ room ≤ 4096)) (hq : 1 ≤ pipe ∧ pipe ≤ 2048) (w : World) :
    Calls Try.prog 6 #[.agg #[.int .u32 i0, .int .u32 i1, .int .u32 i2, .int .u32 i3], .int .i64 room, .int .i64 pipe] w fun e w' => e = .returned (.tuple #[.agg (wdCells wdZero), .bool false]) ∧ Since w w' := by
  have hs := fun wx => implStartN i0 i1 room hi h wx
  have hp := fun wx => implRStart pipe wx
  unfold startV at hp
  rw [if_pos hq] at hp
  have G := Since.refl w
  go_enter Try.func6, Try.ntmps6
  go_upto_region 0 with (fail)
  refine vR ?_
  refine vW (w.alloc (.cells #[.int .u32 i0, .int .u32 i1, .int .u32 i2, .int .u32 i3] 23)) (.pointer (some ⟨w.heap.size, 0, none⟩)) ?_
  have qB2 := Blk.new w #[.int .u32 i0, .int .u32 i1, .int .u32 i2, .int .u32 i3] 23
  have qg3 := (Since.refl w).alloc (.cells #[.int .u32 i0, .int .u32 i1, .int .u32 i2, .int .u32 i3] 23)
  replace G := G.trans qg3
  generalize w.alloc (.cells #[.int .u32 i0, .int .u32 i1, .int .u32 i2, .int .u32 i3] 23) = qw1 at  G qB2 qg3 ⊢
  have qB2_l := qB2.lt
  have qg3_s := qg3.size
  refine vW (qw1.alloc (.cells (wdCells wdZero) 43)) (.pointer (some ⟨qw1.heap.size, 0, none⟩)) ?_
  have qB5 := Blk.new qw1 (wdCells wdZero) 43
  have qg6 := (Since.refl qw1).alloc (.cells (wdCells wdZero) 43)
  replace qB2 := qB2.since qg6
  replace G := G.trans qg6
  generalize qw1.alloc (.cells (wdCells wdZero) 43) = qw4 at qB2 G qB5 qg6 ⊢
  have qB5_l := qB5.lt
  have qg6_s := qg6.size
  refine vV (.bool false) ?_
  refine vE #[.agg #[.int .u32 i0, .int .u32 i1, .int .u32 i2, .int .u32 i3],.int .i64 room,.int .i64 pipe,.pointer (some ⟨w.heap.size, 0, none⟩),U,U,.pointer (some ⟨qw1.heap.size, 0, none⟩),.bool false,U,U,U,U,U,U,U,U,U,U,U,U,U,U,U,U,U,U,U,U,U,U,U,U,U,U,U,U,U,U,U,U] ?_
  go_upto_region 1 with (fail)
  refine vR ?_
  refine vV (.pointer (some ⟨w.heap.size, 0, none⟩)) ?_
  refine vD (.int .u32 i0) (qB2.cell 0) ?_
  refine vV (.pointer (some ⟨w.heap.size, 1, none⟩)) ?_
  refine vD (.int .u32 i1) (qB2.cell 1) ?_
  refine vV (.int .i64 room) ?_
  refine vK (hs _) ?_
  intro qw7 qg8
  replace qB2 := qB2.since qg8
  replace qB5 := qB5.since qg8
  replace G := G.trans qg8
  have qg8_s := qg8.size
  refine vV (.tuple #[.agg (prCells prZero), .bool false]) ?_
  refine vV (.agg (prCells prZero)) ?_
  refine vV (.bool false) ?_
  refine vW (qw7.alloc (.cells (prCells prZero) 37)) (.pointer (some ⟨qw7.heap.size, 0, none⟩)) ?_
  have qB10 := Blk.new qw7 (prCells prZero) 37
  have qg11 := (Since.refl qw7).alloc (.cells (prCells prZero) 37)
  replace qB2 := qB2.since qg11
  replace qB5 := qB5.since qg11
  replace G := G.trans qg11
  generalize qw7.alloc (.cells (prCells prZero) 37) = qw9 at qB2 qB5 G qB10 qg11 ⊢
  have qB10_l := qB10.lt
  have qg11_s := qg11.size
  refine sB (prCells prZero) pr_big qB10 (pr_size _) (pr_size _) (pr_one _) ?_
  intro qw12 qt13 qB14
  clear qB10
  replace qB2 := qB2.touch qt13 (by omega)
  replace qB5 := qB5.touch qt13 (by omega)
  replace G := since_touch G qt13 (by omega)
  have qt13_s := qt13.size
  refine vV (.bool false) ?_
  refine vE #[.agg #[.int .u32 i0, .int .u32 i1, .int .u32 i2, .int .u32 i3],.int .i64 room,.int .i64 pipe,.pointer (some ⟨w.heap.size, 0, none⟩),U,U,.pointer (some ⟨qw1.heap.size, 0, none⟩),.bool false,.pointer (some ⟨qw7.heap.size, 0, none⟩),.bool false,U,U,.tuple #[.agg (prCells prZero), .bool false],.pointer (some ⟨w.heap.size, 0, none⟩),.int .u32 i0,.pointer (some ⟨w.heap.size, 1, none⟩),.int .u32 i1,.int .i64 room,.tuple #[.agg (prCells prZero), .bool false],.agg (prCells prZero),.bool false,U,U,U,U,U,U,U,U,U,U,U,U,U,U,U,U,U,U,U] ?_
  go_upto_region 2 with (fail)
  refine vR ?_
  refine vV (.int .i64 pipe) ?_
  refine vK (hp _) ?_
  intro qw15 qg16
  replace qB2 := qB2.since qg16
  replace qB5 := qB5.since qg16
  replace qB14 := qB14.since qg16
  replace G := G.trans qg16
  have qg16_s := qg16.size
  refine vV (.tuple #[.agg #[.int .i64 pipe, .string ByteArray.empty, .bool false, .int .i64 0, .int .i64 pipe, .string ByteArray.empty, .bool false, .int .i64 0], .bool true]) ?_
  refine vV (.agg #[.int .i64 pipe, .string ByteArray.empty, .bool false, .int .i64 0, .int .i64 pipe, .string ByteArray.empty, .bool false, .int .i64 0]) ?_
  refine vV (.bool true) ?_
  refine vW (qw15.alloc (.cells #[.int .i64 0, .string ByteArray.empty, .bool false, .int .i64 0, .int .i64 0, .string ByteArray.empty, .bool false, .int .i64 0] 41)) (.pointer (some ⟨qw15.heap.size, 0, none⟩)) ?_
  have qB18 := Blk.new qw15 #[.int .i64 0, .string ByteArray.empty, .bool false, .int .i64 0, .int .i64 0, .string ByteArray.empty, .bool false, .int .i64 0] 41
  have qg19 := (Since.refl qw15).alloc (.cells #[.int .i64 0, .string ByteArray.empty, .bool false, .int .i64 0, .int .i64 0, .string ByteArray.empty, .bool false, .int .i64 0] 41)
  replace qB2 := qB2.since qg19
  replace qB5 := qB5.since qg19
  replace qB14 := qB14.since qg19
  replace G := G.trans qg19
  generalize qw15.alloc (.cells #[.int .i64 0, .string ByteArray.empty, .bool false, .int .i64 0, .int .i64 0, .string ByteArray.empty, .bool false, .int .i64 0] 41) = qw17 at qB2 qB5 qB14 G qB18 qg19 ⊢
  have qB18_l := qB18.lt
  have qg19_s := qg19.size
  refine sB #[.int .i64 pipe, .string ByteArray.empty, .bool false, .int .i64 0, .int .i64 pipe, .string ByteArray.empty, .bool false, .int .i64 0] rl_big qB18 rfl rfl (by simp [Value.oneCell']) ?_
  intro qw20 qt21 qB22
  clear qB18
  replace qB2 := qB2.touch qt21 (by omega)
  replace qB5 := qB5.touch qt21 (by omega)
  replace qB14 := qB14.touch qt21 (by omega)
  replace G := since_touch G qt21 (by omega)
  have qt21_s := qt21.size
  refine vV (.bool true) ?_
  refine vE #[.agg #[.int .u32 i0, .int .u32 i1, .int .u32 i2, .int .u32 i3],.int .i64 room,.int .i64 pipe,.pointer (some ⟨w.heap.size, 0, none⟩),U,U,.pointer (some ⟨qw1.heap.size, 0, none⟩),.bool false,.pointer (some ⟨qw7.heap.size, 0, none⟩),.bool false,.pointer (some ⟨qw15.heap.size, 0, none⟩),.bool true,.tuple #[.agg (prCells prZero), .bool false],.pointer (some ⟨w.heap.size, 0, none⟩),.int .u32 i0,.pointer (some ⟨w.heap.size, 1, none⟩),.int .u32 i1,.int .i64 room,.tuple #[.agg (prCells prZero), .bool false],.agg (prCells prZero),.bool false,.tuple #[.agg #[.int .i64 pipe, .string ByteArray.empty, .bool false, .int .i64 0, .int .i64 pipe, .string ByteArray.empty, .bool false, .int .i64 0], .bool true],.int .i64 pipe,.tuple #[.agg #[.int .i64 pipe, .string ByteArray.empty, .bool false, .int .i64 0, .int .i64 pipe, .string ByteArray.empty, .bool false, .int .i64 0], .bool true],.agg #[.int .i64 pipe, .string ByteArray.empty, .bool false, .int .i64 0, .int .i64 pipe, .string ByteArray.empty, .bool false, .int .i64 0],.bool true,U,U,U,U,U,U,U,U,U,U,U,U,U,U] ?_
  go_upto_region 3 with (fail)
  refine vR ?_
  refine vV (.bool false) ?_
  refine vV (.bool true) ?_
  refine vV (.bool true) ?_
  refine vS ?_
  refine vS ?_
  refine vV (.bool true) ?_
  refine vE #[.agg #[.int .u32 i0, .int .u32 i1, .int .u32 i2, .int .u32 i3],.int .i64 room,.int .i64 pipe,.pointer (some ⟨w.heap.size, 0, none⟩),U,U,.pointer (some ⟨qw1.heap.size, 0, none⟩),.bool false,.pointer (some ⟨qw7.heap.size, 0, none⟩),.bool false,.pointer (some ⟨qw15.heap.size, 0, none⟩),.bool true,.tuple #[.agg (prCells prZero), .bool false],.pointer (some ⟨w.heap.size, 0, none⟩),.int .u32 i0,.pointer (some ⟨w.heap.size, 1, none⟩),.int .u32 i1,.int .i64 room,.tuple #[.agg (prCells prZero), .bool false],.agg (prCells prZero),.bool false,.tuple #[.agg #[.int .i64 pipe, .string ByteArray.empty, .bool false, .int .i64 0, .int .i64 pipe, .string ByteArray.empty, .bool false, .int .i64 0], .bool true],.int .i64 pipe,.tuple #[.agg #[.int .i64 pipe, .string ByteArray.empty, .bool false, .int .i64 0, .int .i64 pipe, .string ByteArray.empty, .bool false, .int .i64 0], .bool true],.agg #[.int .i64 pipe, .string ByteArray.empty, .bool false, .int .i64 0, .int .i64 pipe, .string ByteArray.empty, .bool false, .int .i64 0],.bool true,.bool false,.bool true,.bool true,U,U,.bool true,U,U,U,U,U,U,U,U] ?_
  go_upto_region 4 with (fail)
  refine vR ?_
  refine vV (.agg (wdCells wdZero)) ?_
  refine sB (wdCells wdZero) wd_big qB5 (wd_size _) (wd_size _) (wd_one _) ?_
  intro qw23 qt24 qB25
  clear qB5
  replace qB2 := qB2.touch qt24 (by omega)
  replace qB14 := qB14.touch qt24 (by omega)
  replace qB22 := qB22.touch qt24 (by omega)
  replace G := since_touch G qt24 (by omega)
  have qt24_s := qt24.size
  refine vV (.bool false) ?_
  refine vE #[.agg #[.int .u32 i0, .int .u32 i1, .int .u32 i2, .int .u32 i3],.int .i64 room,.int .i64 pipe,.pointer (some ⟨w.heap.size, 0, none⟩),U,U,.pointer (some ⟨qw1.heap.size, 0, none⟩),.bool false,.pointer (some ⟨qw7.heap.size, 0, none⟩),.bool false,.pointer (some ⟨qw15.heap.size, 0, none⟩),.bool true,.tuple #[.agg (prCells prZero), .bool false],.pointer (some ⟨w.heap.size, 0, none⟩),.int .u32 i0,.pointer (some ⟨w.heap.size, 1, none⟩),.int .u32 i1,.int .i64 room,.tuple #[.agg (prCells prZero), .bool false],.agg (prCells prZero),.bool false,.tuple #[.agg #[.int .i64 pipe, .string ByteArray.empty, .bool false, .int .i64 0, .int .i64 pipe, .string ByteArray.empty, .bool false, .int .i64 0], .bool true],.int .i64 pipe,.tuple #[.agg #[.int .i64 pipe, .string ByteArray.empty, .bool false, .int .i64 0, .int .i64 pipe, .string ByteArray.empty, .bool false, .int .i64 0], .bool true],.agg #[.int .i64 pipe, .string ByteArray.empty, .bool false, .int .i64 0, .int .i64 pipe, .string ByteArray.empty, .bool false, .int .i64 0],.bool true,.bool false,.bool true,.bool true,U,U,.bool true,.agg (wdCells wdZero),U,U,U,U,U,U,U] ?_
  go_wp2_with (fail)
  exact bodyPost_ret (results_wd2 (t := 6) (u := 7) rfl _ rfl qB25) rfl ⟨rfl, G⟩

set_option maxRecDepth 20000 in
set_option maxHeartbeats 8000000 in
theorem implWStartS (i0 i1 i2 i3 room pipe : Int) (hi : IsWord i0) (h : ¬ (1 ≤ room ∧ room ≤ 4096)) (hq : ¬ (1 ≤ pipe ∧ pipe ≤ 2048)) (w : World) :
    Calls Try.prog 6 #[.agg #[.int .u32 i0, .int .u32 i1, .int .u32 i2, .int .u32 i3], .int .i64 room, .int .i64 pipe] w fun e w' => e = .returned (.tuple #[.agg (wdCells wdZero), .bool false]) ∧ Since w w' := by
  have hs := fun wx => implStartN i0 i1 room hi h wx
  have hp := fun wx => implRStart pipe wx
  unfold startV at hp
  rw [if_neg hq] at hp
  have G := Since.refl w
  go_enter Try.func6, Try.ntmps6
  go_upto_region 0 with (fail)
  refine vR ?_
  refine vW (w.alloc (.cells #[.int .u32 i0, .int .u32 i1, .int .u32 i2, .int .u32 i3] 23)) (.pointer (some ⟨w.heap.size, 0, none⟩)) ?_
  have qB2 := Blk.new w #[.int .u32 i0, .int .u32 i1, .int .u32 i2, .int .u32 i3] 23
  have qg3 := (Since.refl w).alloc (.cells #[.int .u32 i0, .int .u32 i1, .int .u32 i2, .int .u32 i3] 23)
  replace G := G.trans qg3
  generalize w.alloc (.cells #[.int .u32 i0, .int .u32 i1, .int .u32 i2, .int .u32 i3] 23) = qw1 at  G qB2 qg3 ⊢
  have qB2_l := qB2.lt
  have qg3_s := qg3.size
  refine vW (qw1.alloc (.cells (wdCells wdZero) 43)) (.pointer (some ⟨qw1.heap.size, 0, none⟩)) ?_
  have qB5 := Blk.new qw1 (wdCells wdZero) 43
  have qg6 := (Since.refl qw1).alloc (.cells (wdCells wdZero) 43)
  replace qB2 := qB2.since qg6
  replace G := G.trans qg6
  generalize qw1.alloc (.cells (wdCells wdZero) 43) = qw4 at qB2 G qB5 qg6 ⊢
  have qB5_l := qB5.lt
  have qg6_s := qg6.size
  refine vV (.bool false) ?_
  refine vE #[.agg #[.int .u32 i0, .int .u32 i1, .int .u32 i2, .int .u32 i3],.int .i64 room,.int .i64 pipe,.pointer (some ⟨w.heap.size, 0, none⟩),U,U,.pointer (some ⟨qw1.heap.size, 0, none⟩),.bool false,U,U,U,U,U,U,U,U,U,U,U,U,U,U,U,U,U,U,U,U,U,U,U,U,U,U,U,U,U,U,U,U] ?_
  go_upto_region 1 with (fail)
  refine vR ?_
  refine vV (.pointer (some ⟨w.heap.size, 0, none⟩)) ?_
  refine vD (.int .u32 i0) (qB2.cell 0) ?_
  refine vV (.pointer (some ⟨w.heap.size, 1, none⟩)) ?_
  refine vD (.int .u32 i1) (qB2.cell 1) ?_
  refine vV (.int .i64 room) ?_
  refine vK (hs _) ?_
  intro qw7 qg8
  replace qB2 := qB2.since qg8
  replace qB5 := qB5.since qg8
  replace G := G.trans qg8
  have qg8_s := qg8.size
  refine vV (.tuple #[.agg (prCells prZero), .bool false]) ?_
  refine vV (.agg (prCells prZero)) ?_
  refine vV (.bool false) ?_
  refine vW (qw7.alloc (.cells (prCells prZero) 37)) (.pointer (some ⟨qw7.heap.size, 0, none⟩)) ?_
  have qB10 := Blk.new qw7 (prCells prZero) 37
  have qg11 := (Since.refl qw7).alloc (.cells (prCells prZero) 37)
  replace qB2 := qB2.since qg11
  replace qB5 := qB5.since qg11
  replace G := G.trans qg11
  generalize qw7.alloc (.cells (prCells prZero) 37) = qw9 at qB2 qB5 G qB10 qg11 ⊢
  have qB10_l := qB10.lt
  have qg11_s := qg11.size
  refine sB (prCells prZero) pr_big qB10 (pr_size _) (pr_size _) (pr_one _) ?_
  intro qw12 qt13 qB14
  clear qB10
  replace qB2 := qB2.touch qt13 (by omega)
  replace qB5 := qB5.touch qt13 (by omega)
  replace G := since_touch G qt13 (by omega)
  have qt13_s := qt13.size
  refine vV (.bool false) ?_
  refine vE #[.agg #[.int .u32 i0, .int .u32 i1, .int .u32 i2, .int .u32 i3],.int .i64 room,.int .i64 pipe,.pointer (some ⟨w.heap.size, 0, none⟩),U,U,.pointer (some ⟨qw1.heap.size, 0, none⟩),.bool false,.pointer (some ⟨qw7.heap.size, 0, none⟩),.bool false,U,U,.tuple #[.agg (prCells prZero), .bool false],.pointer (some ⟨w.heap.size, 0, none⟩),.int .u32 i0,.pointer (some ⟨w.heap.size, 1, none⟩),.int .u32 i1,.int .i64 room,.tuple #[.agg (prCells prZero), .bool false],.agg (prCells prZero),.bool false,U,U,U,U,U,U,U,U,U,U,U,U,U,U,U,U,U,U,U] ?_
  go_upto_region 2 with (fail)
  refine vR ?_
  refine vV (.int .i64 pipe) ?_
  refine vK (hp _) ?_
  intro qw15 qg16
  replace qB2 := qB2.since qg16
  replace qB5 := qB5.since qg16
  replace qB14 := qB14.since qg16
  replace G := G.trans qg16
  have qg16_s := qg16.size
  refine vV (.tuple #[.agg #[.int .i64 0, .string ByteArray.empty, .bool false, .int .i64 0, .int .i64 0, .string ByteArray.empty, .bool false, .int .i64 0], .bool false]) ?_
  refine vV (.agg #[.int .i64 0, .string ByteArray.empty, .bool false, .int .i64 0, .int .i64 0, .string ByteArray.empty, .bool false, .int .i64 0]) ?_
  refine vV (.bool false) ?_
  refine vW (qw15.alloc (.cells #[.int .i64 0, .string ByteArray.empty, .bool false, .int .i64 0, .int .i64 0, .string ByteArray.empty, .bool false, .int .i64 0] 41)) (.pointer (some ⟨qw15.heap.size, 0, none⟩)) ?_
  have qB18 := Blk.new qw15 #[.int .i64 0, .string ByteArray.empty, .bool false, .int .i64 0, .int .i64 0, .string ByteArray.empty, .bool false, .int .i64 0] 41
  have qg19 := (Since.refl qw15).alloc (.cells #[.int .i64 0, .string ByteArray.empty, .bool false, .int .i64 0, .int .i64 0, .string ByteArray.empty, .bool false, .int .i64 0] 41)
  replace qB2 := qB2.since qg19
  replace qB5 := qB5.since qg19
  replace qB14 := qB14.since qg19
  replace G := G.trans qg19
  generalize qw15.alloc (.cells #[.int .i64 0, .string ByteArray.empty, .bool false, .int .i64 0, .int .i64 0, .string ByteArray.empty, .bool false, .int .i64 0] 41) = qw17 at qB2 qB5 qB14 G qB18 qg19 ⊢
  have qB18_l := qB18.lt
  have qg19_s := qg19.size
  refine sB #[.int .i64 0, .string ByteArray.empty, .bool false, .int .i64 0, .int .i64 0, .string ByteArray.empty, .bool false, .int .i64 0] rl_big qB18 rfl rfl (by simp [Value.oneCell']) ?_
  intro qw20 qt21 qB22
  clear qB18
  replace qB2 := qB2.touch qt21 (by omega)
  replace qB5 := qB5.touch qt21 (by omega)
  replace qB14 := qB14.touch qt21 (by omega)
  replace G := since_touch G qt21 (by omega)
  have qt21_s := qt21.size
  refine vV (.bool false) ?_
  refine vE #[.agg #[.int .u32 i0, .int .u32 i1, .int .u32 i2, .int .u32 i3],.int .i64 room,.int .i64 pipe,.pointer (some ⟨w.heap.size, 0, none⟩),U,U,.pointer (some ⟨qw1.heap.size, 0, none⟩),.bool false,.pointer (some ⟨qw7.heap.size, 0, none⟩),.bool false,.pointer (some ⟨qw15.heap.size, 0, none⟩),.bool false,.tuple #[.agg (prCells prZero), .bool false],.pointer (some ⟨w.heap.size, 0, none⟩),.int .u32 i0,.pointer (some ⟨w.heap.size, 1, none⟩),.int .u32 i1,.int .i64 room,.tuple #[.agg (prCells prZero), .bool false],.agg (prCells prZero),.bool false,.tuple #[.agg #[.int .i64 0, .string ByteArray.empty, .bool false, .int .i64 0, .int .i64 0, .string ByteArray.empty, .bool false, .int .i64 0], .bool false],.int .i64 pipe,.tuple #[.agg #[.int .i64 0, .string ByteArray.empty, .bool false, .int .i64 0, .int .i64 0, .string ByteArray.empty, .bool false, .int .i64 0], .bool false],.agg #[.int .i64 0, .string ByteArray.empty, .bool false, .int .i64 0, .int .i64 0, .string ByteArray.empty, .bool false, .int .i64 0],.bool false,U,U,U,U,U,U,U,U,U,U,U,U,U,U] ?_
  go_upto_region 3 with (fail)
  refine vR ?_
  refine vV (.bool false) ?_
  refine vV (.bool true) ?_
  refine vV (.bool true) ?_
  refine vS ?_
  refine vS ?_
  refine vV (.bool true) ?_
  refine vE #[.agg #[.int .u32 i0, .int .u32 i1, .int .u32 i2, .int .u32 i3],.int .i64 room,.int .i64 pipe,.pointer (some ⟨w.heap.size, 0, none⟩),U,U,.pointer (some ⟨qw1.heap.size, 0, none⟩),.bool false,.pointer (some ⟨qw7.heap.size, 0, none⟩),.bool false,.pointer (some ⟨qw15.heap.size, 0, none⟩),.bool false,.tuple #[.agg (prCells prZero), .bool false],.pointer (some ⟨w.heap.size, 0, none⟩),.int .u32 i0,.pointer (some ⟨w.heap.size, 1, none⟩),.int .u32 i1,.int .i64 room,.tuple #[.agg (prCells prZero), .bool false],.agg (prCells prZero),.bool false,.tuple #[.agg #[.int .i64 0, .string ByteArray.empty, .bool false, .int .i64 0, .int .i64 0, .string ByteArray.empty, .bool false, .int .i64 0], .bool false],.int .i64 pipe,.tuple #[.agg #[.int .i64 0, .string ByteArray.empty, .bool false, .int .i64 0, .int .i64 0, .string ByteArray.empty, .bool false, .int .i64 0], .bool false],.agg #[.int .i64 0, .string ByteArray.empty, .bool false, .int .i64 0, .int .i64 0, .string ByteArray.empty, .bool false, .int .i64 0],.bool false,.bool false,.bool true,.bool true,U,U,.bool true,U,U,U,U,U,U,U,U] ?_
  go_upto_region 4 with (fail)
  refine vR ?_
  refine vV (.agg (wdCells wdZero)) ?_
  refine sB (wdCells wdZero) wd_big qB5 (wd_size _) (wd_size _) (wd_one _) ?_
  intro qw23 qt24 qB25
  clear qB5
  replace qB2 := qB2.touch qt24 (by omega)
  replace qB14 := qB14.touch qt24 (by omega)
  replace qB22 := qB22.touch qt24 (by omega)
  replace G := since_touch G qt24 (by omega)
  have qt24_s := qt24.size
  refine vV (.bool false) ?_
  refine vE #[.agg #[.int .u32 i0, .int .u32 i1, .int .u32 i2, .int .u32 i3],.int .i64 room,.int .i64 pipe,.pointer (some ⟨w.heap.size, 0, none⟩),U,U,.pointer (some ⟨qw1.heap.size, 0, none⟩),.bool false,.pointer (some ⟨qw7.heap.size, 0, none⟩),.bool false,.pointer (some ⟨qw15.heap.size, 0, none⟩),.bool false,.tuple #[.agg (prCells prZero), .bool false],.pointer (some ⟨w.heap.size, 0, none⟩),.int .u32 i0,.pointer (some ⟨w.heap.size, 1, none⟩),.int .u32 i1,.int .i64 room,.tuple #[.agg (prCells prZero), .bool false],.agg (prCells prZero),.bool false,.tuple #[.agg #[.int .i64 0, .string ByteArray.empty, .bool false, .int .i64 0, .int .i64 0, .string ByteArray.empty, .bool false, .int .i64 0], .bool false],.int .i64 pipe,.tuple #[.agg #[.int .i64 0, .string ByteArray.empty, .bool false, .int .i64 0, .int .i64 0, .string ByteArray.empty, .bool false, .int .i64 0], .bool false],.agg #[.int .i64 0, .string ByteArray.empty, .bool false, .int .i64 0, .int .i64 0, .string ByteArray.empty, .bool false, .int .i64 0],.bool false,.bool false,.bool true,.bool true,U,U,.bool true,.agg (wdCells wdZero),U,U,U,U,U,U,U] ?_
  go_wp2_with (fail)
  exact bodyPost_ret (results_wd2 (t := 6) (u := 7) rfl _ rfl qB25) rfl ⟨rfl, G⟩

theorem implWStartN (i0 i1 i2 i3 room pipe : Int) (hi : IsWord i0) (h : ¬ ((1 ≤ room ∧ room ≤ 4096) ∧ (1 ≤ pipe ∧ pipe ≤ 2048))) (w : World) :
    Calls Try.prog 6 #[.agg #[.int .u32 i0, .int .u32 i1, .int .u32 i2, .int .u32 i3], .int .i64 room, .int .i64 pipe] w fun e w' => e = .returned (.tuple #[.agg (wdCells wdZero), .bool false]) ∧ Since w w' := by
  by_cases h1 : 1 ≤ room ∧ room ≤ 4096
  · exact implWStartQ i0 i1 i2 i3 room pipe hi h1 (fun q => h ⟨h1, q⟩) w
  · by_cases h2 : 1 ≤ pipe ∧ pipe ≤ 2048
    · exact implWStartR i0 i1 i2 i3 room pipe hi h1 h2 w
    · exact implWStartS i0 i1 i2 i3 room pipe hi h1 h2 w
end Go.Proofs.Ytomnjegldbopiaa
