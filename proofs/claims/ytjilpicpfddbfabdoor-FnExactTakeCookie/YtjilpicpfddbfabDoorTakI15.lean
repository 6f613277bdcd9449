/-
  Who comes back with an answer of which nothing was kept: a contract of impl's TakeCookie.
-/
import Derived.Test.YtjilpicpfddbfabDoorTak15
import Derived.Test.YtjilpicpfddbfabDoorLaid0
import Derived.Test.YtjilpicpfddbfabDoorLow
import Derived.Deep.DeepCutAuto
namespace Go.Proofs.YtjilpicpfddbfabDoor
open Go.ChangeShapes Go.WideShapes Go.ChangeAt Go.RowKit Go.Deep
set_option linter.unusedVariables false
set_option maxRecDepth 10000

set_option maxRecDepth 20000 in
set_option maxHeartbeats 8000000 in
theorem implTake15 (k0 h p j q e : Int) (s : Sg) (room now : Int) (hf : IsInt s.fl) (w : World) (E : Laid0 w) :
    Calls Tryd.prog 12 #[.int .u32 k0, addrVal h p, addrVal j q, .int .i64 e, .agg (sgCells s), .int .i64 room, .int .i64 now] w fun f w' => f = .returned (takV k0 h p j q e s room now) ∧ Since w w' := by
  have hE := E.lt
  have hgo := fun wx => isGoingOn s hf wx
  obtain ⟨V, hV⟩ : ∃ V, Hid (V = takV k0 h p j q e s room now) := ⟨_, rfl⟩
  rw [← hV.out]
  have G := Since.refl w
  have hck := fun wx => implCheck k0 h p j q e (cok s) (cok_word s) wx
  generalize ckStep k0 h p j q e (cok s) = ks at hck
  unfold addrVal at *
  go_enter Tryd.func12, Tryd.ntmps12
  go_upto_region 0 with (fail)
  refine vR ?_
  refine vW (w.alloc (.cells #[.int .u32 h, .int .i64 p] 31)) (.pointer (some ⟨w.heap.size, 0, none⟩)) ?_
  have qB2 := Blk.new w #[.int .u32 h, .int .i64 p] 31
  have qg3 := (Since.refl w).alloc (.cells #[.int .u32 h, .int .i64 p] 31)
  replace E := E.since qg3
  replace G := G.trans qg3
  generalize w.alloc (.cells #[.int .u32 h, .int .i64 p] 31) = qw1 at E G qB2 qg3 ⊢
  have qB2_l := qB2.lt
  have qg3_s := qg3.size
  refine vW (qw1.alloc (.cells #[.int .u32 j, .int .i64 q] 31)) (.pointer (some ⟨qw1.heap.size, 0, none⟩)) ?_
  have qB5 := Blk.new qw1 #[.int .u32 j, .int .i64 q] 31
  have qg6 := (Since.refl qw1).alloc (.cells #[.int .u32 j, .int .i64 q] 31)
  replace qB2 := qB2.since qg6
  replace E := E.since qg6
  replace G := G.trans qg6
  generalize qw1.alloc (.cells #[.int .u32 j, .int .i64 q] 31) = qw4 at qB2 E G qB5 qg6 ⊢
  have qB5_l := qB5.lt
  have qg6_s := qg6.size
  refine vW (qw4.alloc (.cells (sgCells s) 28)) (.pointer (some ⟨qw4.heap.size, 0, none⟩)) ?_
  have qB8 := Blk.new qw4 (sgCells s) 28
  have qg9 := (Since.refl qw4).alloc (.cells (sgCells s) 28)
  replace qB2 := qB2.since qg9
  replace qB5 := qB5.since qg9
  replace E := E.since qg9
  replace G := G.trans qg9
  generalize qw4.alloc (.cells (sgCells s) 28) = qw7 at qB2 qB5 E G qB8 qg9 ⊢
  have qB8_l := qB8.lt
  have qg9_s := qg9.size
  refine vW (qw7.alloc (.cells (cnCells cnZero) 46)) (.pointer (some ⟨qw7.heap.size, 0, none⟩)) ?_
  have qB11 := Blk.new qw7 (cnCells cnZero) 46
  have qg12 := (Since.refl qw7).alloc (.cells (cnCells cnZero) 46)
  replace qB2 := qB2.since qg12
  replace qB5 := qB5.since qg12
  replace qB8 := qB8.since qg12
  replace E := E.since qg12
  replace G := G.trans qg12
  generalize qw7.alloc (.cells (cnCells cnZero) 46) = qw10 at qB2 qB5 qB8 E G qB11 qg12 ⊢
  have qB11_l := qB11.lt
  have qg12_s := qg12.size
  refine vV (.bool false) ?_
  refine vE #[.int .u32 k0,.agg #[.int .u32 h, .int .i64 p],.agg #[.int .u32 j, .int .i64 q],.int .i64 e,.agg (sgCells s),.int .i64 room,.int .i64 now,U,.pointer (some ⟨w.heap.size, 0, none⟩),.pointer (some ⟨qw1.heap.size, 0, none⟩),U,.pointer (some ⟨qw4.heap.size, 0, none⟩),U,U,.pointer (some ⟨qw7.heap.size, 0, none⟩),.bool false,U,U,U,U,U,U,U,U,U,U,U,U,U,U,U,U,U,U,U,U,U,U,U,U,U,U,U,U,U,U,U,U,U,U,U,U,U,U,U,U,U,U,U,U,U,U,U,U,U,U,U,U,U,U,U,U,U,U,U,U,U,U] ?_
  go_upto_region 1 with (fail)
  refine vR ?_
  refine vV (.pointer (some ⟨qw4.heap.size, 3, none⟩)) ?_
  refine vD (.int .u32 s.ak) (qB8.cell 3) ?_
  refine vV (.int .u32 (cok s)) ?_
  refine vV (.int .u32 (cok s)) ?_
  refine vE #[.int .u32 k0,.agg #[.int .u32 h, .int .i64 p],.agg #[.int .u32 j, .int .i64 q],.int .i64 e,.agg (sgCells s),.int .i64 room,.int .i64 now,U,.pointer (some ⟨w.heap.size, 0, none⟩),.pointer (some ⟨qw1.heap.size, 0, none⟩),U,.pointer (some ⟨qw4.heap.size, 0, none⟩),U,U,.pointer (some ⟨qw7.heap.size, 0, none⟩),.bool false,.int .u32 (cok s),U,U,U,U,U,U,.pointer (some ⟨qw4.heap.size, 3, none⟩),.int .u32 s.ak,.int .u32 (cok s),U,U,U,U,U,U,U,U,U,U,U,U,U,U,U,U,U,U,U,U,U,U,U,U,U,U,U,U,U,U,U,U,U,U,U,U,U,U,U,U,U,U,U,U,U,U,U,U,U,U,U,U] ?_
  go_upto_region 2 with (fail)
  cases c4 : ckKnown k0 h p j q e (cok s)
  · rw [c4] at hck
    replace c4 : Hid _ := c4
    refine vR ?_
    refine vV (.int .u32 k0) ?_
    refine vB ad_big qB2 rfl ?_
    refine vB ad_big qB5 rfl ?_
    refine vV (.int .i64 e) ?_
    refine vV (.int .u32 (cok s)) ?_
    refine vK (hck _) ?_
    intro qw13 qg14
    replace qB2 := qB2.since qg14
    replace qB5 := qB5.since qg14
    replace qB8 := qB8.since qg14
    replace qB11 := qB11.since qg14
    replace E := E.since qg14
    replace G := G.trans qg14
    have qg14_s := qg14.size
    refine vV (.tuple #[.int .i64 ks, .bool false]) ?_
    refine vV (.int .i64 ks) ?_
    refine vV (.bool false) ?_
    refine vV (.int .i64 ks) ?_
    refine vV (.bool false) ?_
    refine vE #[.int .u32 k0,.agg #[.int .u32 h, .int .i64 p],.agg #[.int .u32 j, .int .i64 q],.int .i64 e,.agg (sgCells s),.int .i64 room,.int .i64 now,U,.pointer (some ⟨w.heap.size, 0, none⟩),.pointer (some ⟨qw1.heap.size, 0, none⟩),U,.pointer (some ⟨qw4.heap.size, 0, none⟩),U,U,.pointer (some ⟨qw7.heap.size, 0, none⟩),.bool false,.int .u32 (cok s),.int .i64 ks,.bool false,U,U,U,U,.pointer (some ⟨qw4.heap.size, 3, none⟩),.int .u32 s.ak,.int .u32 (cok s),.tuple #[.int .i64 ks, .bool false],.int .u32 k0,.agg #[.int .u32 h, .int .i64 p],.agg #[.int .u32 j, .int .i64 q],.int .i64 e,.int .u32 (cok s),.tuple #[.int .i64 ks, .bool false],.int .i64 ks,.bool false,U,U,U,U,U,U,U,U,U,U,U,U,U,U,U,U,U,U,U,U,U,U,U,U,U,U,U,U,U,U,U,U,U,U,U,U,U,U,U,U,U,U,U] ?_
    go_upto_region 3 with (fail)
    refine vR ?_
    refine vV (.bool false) ?_
    refine vV (.bool true) ?_
    refine vV (.bool true) ?_
    refine vS ?_
    refine vS ?_
    refine vS ?_
    refine vV (.bool true) ?_
    refine vE #[.int .u32 k0,.agg #[.int .u32 h, .int .i64 p],.agg #[.int .u32 j, .int .i64 q],.int .i64 e,.agg (sgCells s),.int .i64 room,.int .i64 now,U,.pointer (some ⟨w.heap.size, 0, none⟩),.pointer (some ⟨qw1.heap.size, 0, none⟩),U,.pointer (some ⟨qw4.heap.size, 0, none⟩),U,U,.pointer (some ⟨qw7.heap.size, 0, none⟩),.bool false,.int .u32 (cok s),.int .i64 ks,.bool false,U,U,U,U,.pointer (some ⟨qw4.heap.size, 3, none⟩),.int .u32 s.ak,.int .u32 (cok s),.tuple #[.int .i64 ks, .bool false],.int .u32 k0,.agg #[.int .u32 h, .int .i64 p],.agg #[.int .u32 j, .int .i64 q],.int .i64 e,.int .u32 (cok s),.tuple #[.int .i64 ks, .bool false],.int .i64 ks,.bool false,.bool false,.bool true,.bool true,U,U,U,.bool true,U,U,U,U,U,U,U,U,U,U,U,U,U,U,U,U,U,U,U,U,U,U,U,U,U,U,U,U,U,U,U,U,U,U,U,U] ?_
    go_upto_region 4 with (fail)
    refine vR ?_
    refine vV (.agg (cnCells cnZero)) ?_
    refine sB (cnCells cnZero) cn_big qB11 (cn_size _) (cn_size _) (cn_one _) ?_
    intro qw15 qt16 qB17
    clear qB11
    replace qB2 := qB2.touch qt16 (by omega)
    replace qB5 := qB5.touch qt16 (by omega)
    replace qB8 := qB8.touch qt16 (by omega)
    replace E := E.touch qt16 (by omega)
    replace G := since_touch G qt16 (by omega)
    have qt16_s := qt16.size
    refine vV (.bool false) ?_
    refine vE #[.int .u32 k0,.agg #[.int .u32 h, .int .i64 p],.agg #[.int .u32 j, .int .i64 q],.int .i64 e,.agg (sgCells s),.int .i64 room,.int .i64 now,U,.pointer (some ⟨w.heap.size, 0, none⟩),.pointer (some ⟨qw1.heap.size, 0, none⟩),U,.pointer (some ⟨qw4.heap.size, 0, none⟩),U,U,.pointer (some ⟨qw7.heap.size, 0, none⟩),.bool false,.int .u32 (cok s),.int .i64 ks,.bool false,U,U,U,U,.pointer (some ⟨qw4.heap.size, 3, none⟩),.int .u32 s.ak,.int .u32 (cok s),.tuple #[.int .i64 ks, .bool false],.int .u32 k0,.agg #[.int .u32 h, .int .i64 p],.agg #[.int .u32 j, .int .i64 q],.int .i64 e,.int .u32 (cok s),.tuple #[.int .i64 ks, .bool false],.int .i64 ks,.bool false,.bool false,.bool true,.bool true,U,U,U,.bool true,.agg (cnCells cnZero),U,U,U,U,U,U,U,U,U,U,U,U,U,U,U,U,U,U,U,U,U,U,U,U,U,U,U,U,U,U,U,U,U,U,U] ?_
    go_wp2_with (fail)
    exact bodyPost_ret (v := .tuple #[.agg (cnCells cnZero), .bool false]) (results_cn2 (t := 14) (u := 15) rfl _ rfl qB17) rfl ⟨by rw [hV.out, tak_no (by unfold takOk; rw [c4.out]; simp)], G⟩
  · rw [c4] at hck
    replace c4 : Hid _ := c4
    cases c1 : goesOn s
    · rw [c1] at hgo
      replace c1 : Hid _ := c1
      refine vR ?_
      refine vV (.int .u32 k0) ?_
      refine vB ad_big qB2 rfl ?_
      refine vB ad_big qB5 rfl ?_
      refine vV (.int .i64 e) ?_
      refine vV (.int .u32 (cok s)) ?_
      refine vK (hck _) ?_
      intro qw13 qg14
      replace qB2 := qB2.since qg14
      replace qB5 := qB5.since qg14
      replace qB8 := qB8.since qg14
      replace qB11 := qB11.since qg14
      replace E := E.since qg14
      replace G := G.trans qg14
      have qg14_s := qg14.size
      refine vV (.tuple #[.int .i64 ks, .bool true]) ?_
      refine vV (.int .i64 ks) ?_
      refine vV (.bool true) ?_
      refine vV (.int .i64 ks) ?_
      refine vV (.bool true) ?_
      refine vE #[.int .u32 k0,.agg #[.int .u32 h, .int .i64 p],.agg #[.int .u32 j, .int .i64 q],.int .i64 e,.agg (sgCells s),.int .i64 room,.int .i64 now,U,.pointer (some ⟨w.heap.size, 0, none⟩),.pointer (some ⟨qw1.heap.size, 0, none⟩),U,.pointer (some ⟨qw4.heap.size, 0, none⟩),U,U,.pointer (some ⟨qw7.heap.size, 0, none⟩),.bool false,.int .u32 (cok s),.int .i64 ks,.bool true,U,U,U,U,.pointer (some ⟨qw4.heap.size, 3, none⟩),.int .u32 s.ak,.int .u32 (cok s),.tuple #[.int .i64 ks, .bool true],.int .u32 k0,.agg #[.int .u32 h, .int .i64 p],.agg #[.int .u32 j, .int .i64 q],.int .i64 e,.int .u32 (cok s),.tuple #[.int .i64 ks, .bool true],.int .i64 ks,.bool true,U,U,U,U,U,U,U,U,U,U,U,U,U,U,U,U,U,U,U,U,U,U,U,U,U,U,U,U,U,U,U,U,U,U,U,U,U,U,U,U,U,U,U] ?_
      go_upto_region 3 with (fail)
      refine vR ?_
      refine vV (.bool true) ?_
      refine vV (.bool false) ?_
      refine vV (.bool false) ?_
      refine vB seg_big qB8 rfl ?_
      refine vK (hgo _) ?_
      intro qw15 qg16
      replace qB2 := qB2.since qg16
      replace qB5 := qB5.since qg16
      replace qB8 := qB8.since qg16
      replace qB11 := qB11.since qg16
      replace E := E.since qg16
      replace G := G.trans qg16
      have qg16_s := qg16.size
      refine vV (.bool true) ?_
      refine vV (.bool true) ?_
      refine vE #[.int .u32 k0,.agg #[.int .u32 h, .int .i64 p],.agg #[.int .u32 j, .int .i64 q],.int .i64 e,.agg (sgCells s),.int .i64 room,.int .i64 now,U,.pointer (some ⟨w.heap.size, 0, none⟩),.pointer (some ⟨qw1.heap.size, 0, none⟩),U,.pointer (some ⟨qw4.heap.size, 0, none⟩),U,U,.pointer (some ⟨qw7.heap.size, 0, none⟩),.bool false,.int .u32 (cok s),.int .i64 ks,.bool true,U,U,U,U,.pointer (some ⟨qw4.heap.size, 3, none⟩),.int .u32 s.ak,.int .u32 (cok s),.tuple #[.int .i64 ks, .bool true],.int .u32 k0,.agg #[.int .u32 h, .int .i64 p],.agg #[.int .u32 j, .int .i64 q],.int .i64 e,.int .u32 (cok s),.tuple #[.int .i64 ks, .bool true],.int .i64 ks,.bool true,.bool true,.bool false,.bool false,.agg (sgCells s),.bool false,.bool true,.bool true,U,U,U,U,U,U,U,U,U,U,U,U,U,U,U,U,U,U,U,U,U,U,U,U,U,U,U,U,U,U,U,U,U,U,U,U] ?_
      go_upto_region 4 with (fail)
      refine vR ?_
      refine vV (.agg (cnCells cnZero)) ?_
      refine sB (cnCells cnZero) cn_big qB11 (cn_size _) (cn_size _) (cn_one _) ?_
      intro qw17 qt18 qB19
      clear qB11
      replace qB2 := qB2.touch qt18 (by omega)
      replace qB5 := qB5.touch qt18 (by omega)
      replace qB8 := qB8.touch qt18 (by omega)
      replace E := E.touch qt18 (by omega)
      replace G := since_touch G qt18 (by omega)
      have qt18_s := qt18.size
      refine vV (.bool false) ?_
      refine vE #[.int .u32 k0,.agg #[.int .u32 h, .int .i64 p],.agg #[.int .u32 j, .int .i64 q],.int .i64 e,.agg (sgCells s),.int .i64 room,.int .i64 now,U,.pointer (some ⟨w.heap.size, 0, none⟩),.pointer (some ⟨qw1.heap.size, 0, none⟩),U,.pointer (some ⟨qw4.heap.size, 0, none⟩),U,U,.pointer (some ⟨qw7.heap.size, 0, none⟩),.bool false,.int .u32 (cok s),.int .i64 ks,.bool true,U,U,U,U,.pointer (some ⟨qw4.heap.size, 3, none⟩),.int .u32 s.ak,.int .u32 (cok s),.tuple #[.int .i64 ks, .bool true],.int .u32 k0,.agg #[.int .u32 h, .int .i64 p],.agg #[.int .u32 j, .int .i64 q],.int .i64 e,.int .u32 (cok s),.tuple #[.int .i64 ks, .bool true],.int .i64 ks,.bool true,.bool true,.bool false,.bool false,.agg (sgCells s),.bool false,.bool true,.bool true,.agg (cnCells cnZero),U,U,U,U,U,U,U,U,U,U,U,U,U,U,U,U,U,U,U,U,U,U,U,U,U,U,U,U,U,U,U,U,U,U,U] ?_
      go_wp2_with (fail)
      exact bodyPost_ret (v := .tuple #[.agg (cnCells cnZero), .bool false]) (results_cn2 (t := 14) (u := 15) rfl _ rfl qB19) rfl ⟨by rw [hV.out, tak_no (by unfold takOk; rw [c1.out]; rfl)], G⟩
    · rw [c1] at hgo
      replace c1 : Hid _ := c1
      have hh := fun wx L => implHear (askS s) (cok s) room now (cok_word s) (askS_word s) (by show (⟨#[]⟩ : ByteArray).size ≤ 1048576; decide) wx L
      unfold hearV cnVal sgVal at hh
      obtain ⟨C0, hC0⟩ : ∃ C, Hid (C = hearC (askS s) (cok s) room now) := ⟨_, rfl⟩
      rw [← hC0.out] at hh
      generalize synSg C0 [] = S0 at hh
      by_cases c5 : hearOk (askS s) room now
      · simp only [if_pos c5] at hh
        refine vR ?_
        refine vV (.int .u32 k0) ?_
        refine vB ad_big qB2 rfl ?_
        refine vB ad_big qB5 rfl ?_
        refine vV (.int .i64 e) ?_
        refine vV (.int .u32 (cok s)) ?_
        refine vK (hck _) ?_
        intro qw13 qg14
        replace qB2 := qB2.since qg14
        replace qB5 := qB5.since qg14
        replace qB8 := qB8.since qg14
        replace qB11 := qB11.since qg14
        replace E := E.since qg14
        replace G := G.trans qg14
        have qg14_s := qg14.size
        refine vV (.tuple #[.int .i64 ks, .bool true]) ?_
        refine vV (.int .i64 ks) ?_
        refine vV (.bool true) ?_
        refine vV (.int .i64 ks) ?_
        refine vV (.bool true) ?_
        refine vE #[.int .u32 k0,.agg #[.int .u32 h, .int .i64 p],.agg #[.int .u32 j, .int .i64 q],.int .i64 e,.agg (sgCells s),.int .i64 room,.int .i64 now,U,.pointer (some ⟨w.heap.size, 0, none⟩),.pointer (some ⟨qw1.heap.size, 0, none⟩),U,.pointer (some ⟨qw4.heap.size, 0, none⟩),U,U,.pointer (some ⟨qw7.heap.size, 0, none⟩),.bool false,.int .u32 (cok s),.int .i64 ks,.bool true,U,U,U,U,.pointer (some ⟨qw4.heap.size, 3, none⟩),.int .u32 s.ak,.int .u32 (cok s),.tuple #[.int .i64 ks, .bool true],.int .u32 k0,.agg #[.int .u32 h, .int .i64 p],.agg #[.int .u32 j, .int .i64 q],.int .i64 e,.int .u32 (cok s),.tuple #[.int .i64 ks, .bool true],.int .i64 ks,.bool true,U,U,U,U,U,U,U,U,U,U,U,U,U,U,U,U,U,U,U,U,U,U,U,U,U,U,U,U,U,U,U,U,U,U,U,U,U,U,U,U,U,U,U] ?_
        go_upto_region 3 with (fail)
        refine vR ?_
        refine vV (.bool true) ?_
        refine vV (.bool false) ?_
        refine vV (.bool false) ?_
        refine vB seg_big qB8 rfl ?_
        refine vK (hgo _) ?_
        intro qw15 qg16
        replace qB2 := qB2.since qg16
        replace qB5 := qB5.since qg16
        replace qB8 := qB8.since qg16
        replace qB11 := qB11.since qg16
        replace E := E.since qg16
        replace G := G.trans qg16
        have qg16_s := qg16.size
        refine vV (.bool false) ?_
        refine vV (.bool false) ?_
        refine vE #[.int .u32 k0,.agg #[.int .u32 h, .int .i64 p],.agg #[.int .u32 j, .int .i64 q],.int .i64 e,.agg (sgCells s),.int .i64 room,.int .i64 now,U,.pointer (some ⟨w.heap.size, 0, none⟩),.pointer (some ⟨qw1.heap.size, 0, none⟩),U,.pointer (some ⟨qw4.heap.size, 0, none⟩),U,U,.pointer (some ⟨qw7.heap.size, 0, none⟩),.bool false,.int .u32 (cok s),.int .i64 ks,.bool true,U,U,U,U,.pointer (some ⟨qw4.heap.size, 3, none⟩),.int .u32 s.ak,.int .u32 (cok s),.tuple #[.int .i64 ks, .bool true],.int .u32 k0,.agg #[.int .u32 h, .int .i64 p],.agg #[.int .u32 j, .int .i64 q],.int .i64 e,.int .u32 (cok s),.tuple #[.int .i64 ks, .bool true],.int .i64 ks,.bool true,.bool true,.bool false,.bool false,.agg (sgCells s),.bool true,.bool false,.bool false,U,U,U,U,U,U,U,U,U,U,U,U,U,U,U,U,U,U,U,U,U,U,U,U,U,U,U,U,U,U,U,U,U,U,U,U] ?_
        go_upto_region 5 with (fail)
        refine vR ?_
        refine vV (.pointer (some ⟨qw4.heap.size, 2, none⟩)) ?_
        refine vD (.int .u32 s.sq) (qB8.cell 2) ?_
        refine vV (.int .u32 ((s.sq - 1) % 4294967296)) ?_
        refine vV (.pointer (some ⟨qw4.heap.size, 5, none⟩)) ?_
        refine vD (.int .i64 s.wn) (qB8.cell 5) ?_
        refine vV (.agg (sgCells (askS s))) ?_
        refine vW (qw15.alloc (.cells (sgCells sgZero) 28)) (.pointer (some ⟨qw15.heap.size, 0, none⟩)) ?_
        have qB18 := Blk.new qw15 (sgCells sgZero) 28
        have qg19 := (Since.refl qw15).alloc (.cells (sgCells sgZero) 28)
        replace qB2 := qB2.since qg19
        replace qB5 := qB5.since qg19
        replace qB8 := qB8.since qg19
        replace qB11 := qB11.since qg19
        replace E := E.since qg19
        replace G := G.trans qg19
        generalize qw15.alloc (.cells (sgCells sgZero) 28) = qw17 at qB2 qB5 qB8 qB11 E G qB18 qg19 ⊢
        have qB18_l := qB18.lt
        have qg19_s := qg19.size
        refine sB (sgCells (askS s)) seg_big qB18 rfl rfl (seg_one _ _ _ _ _ _ _ _) ?_
        intro qw20 qt21 qB22
        clear qB18
        replace qB2 := qB2.touch qt21 (by omega)
        replace qB5 := qB5.touch qt21 (by omega)
        replace qB8 := qB8.touch qt21 (by omega)
        replace qB11 := qB11.touch qt21 (by omega)
        replace E := E.touch qt21 (by omega)
        replace G := since_touch G qt21 (by omega)
        have qt21_s := qt21.size
        refine vE #[.int .u32 k0,.agg #[.int .u32 h, .int .i64 p],.agg #[.int .u32 j, .int .i64 q],.int .i64 e,.agg (sgCells s),.int .i64 room,.int .i64 now,U,.pointer (some ⟨w.heap.size, 0, none⟩),.pointer (some ⟨qw1.heap.size, 0, none⟩),U,.pointer (some ⟨qw4.heap.size, 0, none⟩),U,U,.pointer (some ⟨qw7.heap.size, 0, none⟩),.bool false,.int .u32 (cok s),.int .i64 ks,.bool true,.pointer (some ⟨qw15.heap.size, 0, none⟩),U,U,U,.pointer (some ⟨qw4.heap.size, 3, none⟩),.int .u32 s.ak,.int .u32 (cok s),.tuple #[.int .i64 ks, .bool true],.int .u32 k0,.agg #[.int .u32 h, .int .i64 p],.agg #[.int .u32 j, .int .i64 q],.int .i64 e,.int .u32 (cok s),.tuple #[.int .i64 ks, .bool true],.int .i64 ks,.bool true,.bool true,.bool false,.bool false,.agg (sgCells s),.bool true,.bool false,.bool false,U,.pointer (some ⟨qw4.heap.size, 2, none⟩),.int .u32 s.sq,.int .u32 ((s.sq - 1) % 4294967296),.pointer (some ⟨qw4.heap.size, 5, none⟩),.int .i64 s.wn,.agg (sgCells (askS s)),U,U,U,U,U,U,U,U,U,U,U,U,U,U,U,U,U,U,U,U,U,U,U,U,U,U,U,U,U] ?_
        go_upto_region 6 with (fail)
        refine vR ?_
        refine vB seg_big qB22 rfl ?_
        refine vV (.int .u32 (cok s)) ?_
        refine vV (.int .i64 room) ?_
        refine vV (.int .i64 now) ?_
        refine vK (hh _ E) ?_
        intro qw23 qg24
        replace qB2 := qB2.since qg24
        replace qB5 := qB5.since qg24
        replace qB8 := qB8.since qg24
        replace qB11 := qB11.since qg24
        replace qB22 := qB22.since qg24
        replace E := E.since qg24
        replace G := G.trans qg24
        have qg24_s := qg24.size
        refine vV (.tuple #[.agg (cnCells C0), .agg (sgCells S0), .bool true]) ?_
        refine vV (.agg (cnCells C0)) ?_
        refine vV (.agg (sgCells S0)) ?_
        refine vV (.bool true) ?_
        refine vW (qw23.alloc (.cells (cnCells cnZero) 46)) (.pointer (some ⟨qw23.heap.size, 0, none⟩)) ?_
        have qB26 := Blk.new qw23 (cnCells cnZero) 46
        have qg27 := (Since.refl qw23).alloc (.cells (cnCells cnZero) 46)
        replace qB2 := qB2.since qg27
        replace qB5 := qB5.since qg27
        replace qB8 := qB8.since qg27
        replace qB11 := qB11.since qg27
        replace qB22 := qB22.since qg27
        replace E := E.since qg27
        replace G := G.trans qg27
        generalize qw23.alloc (.cells (cnCells cnZero) 46) = qw25 at qB2 qB5 qB8 qB11 qB22 E G qB26 qg27 ⊢
        have qB26_l := qB26.lt
        have qg27_s := qg27.size
        refine vW (qw25.alloc (.cells (sgCells sgZero) 28)) (.pointer (some ⟨qw25.heap.size, 0, none⟩)) ?_
        have qB29 := Blk.new qw25 (sgCells sgZero) 28
        have qg30 := (Since.refl qw25).alloc (.cells (sgCells sgZero) 28)
        replace qB2 := qB2.since qg30
        replace qB5 := qB5.since qg30
        replace qB8 := qB8.since qg30
        replace qB11 := qB11.since qg30
        replace qB22 := qB22.since qg30
        replace qB26 := qB26.since qg30
        replace E := E.since qg30
        replace G := G.trans qg30
        generalize qw25.alloc (.cells (sgCells sgZero) 28) = qw28 at qB2 qB5 qB8 qB11 qB22 qB26 E G qB29 qg30 ⊢
        have qB29_l := qB29.lt
        have qg30_s := qg30.size
        refine sB (cnCells C0) cn_big qB26 (cn_size _) (cn_size _) (cn_one _) ?_
        intro qw31 qt32 qB33
        clear qB26
        replace qB2 := qB2.touch qt32 (by omega)
        replace qB5 := qB5.touch qt32 (by omega)
        replace qB8 := qB8.touch qt32 (by omega)
        replace qB11 := qB11.touch qt32 (by omega)
        replace qB22 := qB22.touch qt32 (by omega)
        replace qB29 := qB29.touch qt32 (by omega)
        replace E := E.touch qt32 (by omega)
        replace G := since_touch G qt32 (by omega)
        have qt32_s := qt32.size
        refine sB (sgCells S0) seg_big qB29 rfl rfl (seg_one _ _ _ _ _ _ _ _) ?_
        intro qw34 qt35 qB36
        clear qB29
        replace qB2 := qB2.touch qt35 (by omega)
        replace qB5 := qB5.touch qt35 (by omega)
        replace qB8 := qB8.touch qt35 (by omega)
        replace qB11 := qB11.touch qt35 (by omega)
        replace qB22 := qB22.touch qt35 (by omega)
        replace qB33 := qB33.touch qt35 (by omega)
        replace E := E.touch qt35 (by omega)
        replace G := since_touch G qt35 (by omega)
        have qt35_s := qt35.size
        refine vV (.bool true) ?_
        refine vE #[.int .u32 k0,.agg #[.int .u32 h, .int .i64 p],.agg #[.int .u32 j, .int .i64 q],.int .i64 e,.agg (sgCells s),.int .i64 room,.int .i64 now,U,.pointer (some ⟨w.heap.size, 0, none⟩),.pointer (some ⟨qw1.heap.size, 0, none⟩),U,.pointer (some ⟨qw4.heap.size, 0, none⟩),U,U,.pointer (some ⟨qw7.heap.size, 0, none⟩),.bool false,.int .u32 (cok s),.int .i64 ks,.bool true,.pointer (some ⟨qw15.heap.size, 0, none⟩),.pointer (some ⟨qw23.heap.size, 0, none⟩),.pointer (some ⟨qw25.heap.size, 0, none⟩),.bool true,.pointer (some ⟨qw4.heap.size, 3, none⟩),.int .u32 s.ak,.int .u32 (cok s),.tuple #[.int .i64 ks, .bool true],.int .u32 k0,.agg #[.int .u32 h, .int .i64 p],.agg #[.int .u32 j, .int .i64 q],.int .i64 e,.int .u32 (cok s),.tuple #[.int .i64 ks, .bool true],.int .i64 ks,.bool true,.bool true,.bool false,.bool false,.agg (sgCells s),.bool true,.bool false,.bool false,U,.pointer (some ⟨qw4.heap.size, 2, none⟩),.int .u32 s.sq,.int .u32 ((s.sq - 1) % 4294967296),.pointer (some ⟨qw4.heap.size, 5, none⟩),.int .i64 s.wn,.agg (sgCells (askS s)),.tuple #[.agg (cnCells C0), .agg (sgCells S0), .bool true],.agg (sgCells (askS s)),.int .u32 (cok s),.int .i64 room,.int .i64 now,.tuple #[.agg (cnCells C0), .agg (sgCells S0), .bool true],.agg (cnCells C0),.agg (sgCells S0),.bool true,U,U,U,U,U,U,U,U,U,U,U,U,U,U,U,U,U,U,U,U] ?_
        go_upto_region 7 with (fail)
        refine vR ?_
        refine vV (.bool true) ?_
        refine vV (.bool false) ?_
        refine vE #[.int .u32 k0,.agg #[.int .u32 h, .int .i64 p],.agg #[.int .u32 j, .int .i64 q],.int .i64 e,.agg (sgCells s),.int .i64 room,.int .i64 now,U,.pointer (some ⟨w.heap.size, 0, none⟩),.pointer (some ⟨qw1.heap.size, 0, none⟩),U,.pointer (some ⟨qw4.heap.size, 0, none⟩),U,U,.pointer (some ⟨qw7.heap.size, 0, none⟩),.bool false,.int .u32 (cok s),.int .i64 ks,.bool true,.pointer (some ⟨qw15.heap.size, 0, none⟩),.pointer (some ⟨qw23.heap.size, 0, none⟩),.pointer (some ⟨qw25.heap.size, 0, none⟩),.bool true,.pointer (some ⟨qw4.heap.size, 3, none⟩),.int .u32 s.ak,.int .u32 (cok s),.tuple #[.int .i64 ks, .bool true],.int .u32 k0,.agg #[.int .u32 h, .int .i64 p],.agg #[.int .u32 j, .int .i64 q],.int .i64 e,.int .u32 (cok s),.tuple #[.int .i64 ks, .bool true],.int .i64 ks,.bool true,.bool true,.bool false,.bool false,.agg (sgCells s),.bool true,.bool false,.bool false,U,.pointer (some ⟨qw4.heap.size, 2, none⟩),.int .u32 s.sq,.int .u32 ((s.sq - 1) % 4294967296),.pointer (some ⟨qw4.heap.size, 5, none⟩),.int .i64 s.wn,.agg (sgCells (askS s)),.tuple #[.agg (cnCells C0), .agg (sgCells S0), .bool true],.agg (sgCells (askS s)),.int .u32 (cok s),.int .i64 room,.int .i64 now,.tuple #[.agg (cnCells C0), .agg (sgCells S0), .bool true],.agg (cnCells C0),.agg (sgCells S0),.bool true,.bool true,.bool false,U,U,U,U,U,U,U,U,U,U,U,U,U,U,U,U,U,U] ?_
        go_upto_region 9 with (fail)
        refine vR ?_
        refine vV (.pointer (some ⟨qw23.heap.size, 0, none⟩)) ?_
        refine sC (cnCells { C0 with st := 3 }) qB33 0 (.int .i64 3) (cn_size _) ?_
        intro qw37 qt38 qB39
        clear qB33
        replace qB2 := qB2.touch qt38 (by omega)
        replace qB5 := qB5.touch qt38 (by omega)
        replace qB8 := qB8.touch qt38 (by omega)
        replace qB11 := qB11.touch qt38 (by omega)
        replace qB22 := qB22.touch qt38 (by omega)
        replace qB36 := qB36.touch qt38 (by omega)
        replace E := E.touch qt38 (by omega)
        replace G := since_touch G qt38 (by omega)
        have qt38_s := qt38.size
        refine vV (.pointer (some ⟨qw23.heap.size, 31, none⟩)) ?_
        refine sC (cnCells { C0 with st := 3, agn := 0 }) qB39 31 (.int .i64 0) (cn_size _) ?_
        intro qw40 qt41 qB42
        clear qB39
        replace qB2 := qB2.touch qt41 (by omega)
        replace qB5 := qB5.touch qt41 (by omega)
        replace qB8 := qB8.touch qt41 (by omega)
        replace qB11 := qB11.touch qt41 (by omega)
        replace qB22 := qB22.touch qt41 (by omega)
        replace qB36 := qB36.touch qt41 (by omega)
        replace E := E.touch qt41 (by omega)
        replace G := since_touch G qt41 (by omega)
        have qt41_s := qt41.size
        refine vV (.pointer (some ⟨qw23.heap.size, 28, none⟩)) ?_
        refine sC (cnCells { C0 with st := 3, agn := 0, tmg := false }) qB42 28 (.bool false) (cn_size _) ?_
        intro qw43 qt44 qB45
        clear qB42
        replace qB2 := qB2.touch qt44 (by omega)
        replace qB5 := qB5.touch qt44 (by omega)
        replace qB8 := qB8.touch qt44 (by omega)
        replace qB11 := qB11.touch qt44 (by omega)
        replace qB22 := qB22.touch qt44 (by omega)
        replace qB36 := qB36.touch qt44 (by omega)
        replace E := E.touch qt44 (by omega)
        replace G := since_touch G qt44 (by omega)
        have qt44_s := qt44.size
        refine vE #[.int .u32 k0,.agg #[.int .u32 h, .int .i64 p],.agg #[.int .u32 j, .int .i64 q],.int .i64 e,.agg (sgCells s),.int .i64 room,.int .i64 now,U,.pointer (some ⟨w.heap.size, 0, none⟩),.pointer (some ⟨qw1.heap.size, 0, none⟩),U,.pointer (some ⟨qw4.heap.size, 0, none⟩),U,U,.pointer (some ⟨qw7.heap.size, 0, none⟩),.bool false,.int .u32 (cok s),.int .i64 ks,.bool true,.pointer (some ⟨qw15.heap.size, 0, none⟩),.pointer (some ⟨qw23.heap.size, 0, none⟩),.pointer (some ⟨qw25.heap.size, 0, none⟩),.bool true,.pointer (some ⟨qw4.heap.size, 3, none⟩),.int .u32 s.ak,.int .u32 (cok s),.tuple #[.int .i64 ks, .bool true],.int .u32 k0,.agg #[.int .u32 h, .int .i64 p],.agg #[.int .u32 j, .int .i64 q],.int .i64 e,.int .u32 (cok s),.tuple #[.int .i64 ks, .bool true],.int .i64 ks,.bool true,.bool true,.bool false,.bool false,.agg (sgCells s),.bool true,.bool false,.bool false,U,.pointer (some ⟨qw4.heap.size, 2, none⟩),.int .u32 s.sq,.int .u32 ((s.sq - 1) % 4294967296),.pointer (some ⟨qw4.heap.size, 5, none⟩),.int .i64 s.wn,.agg (sgCells (askS s)),.tuple #[.agg (cnCells C0), .agg (sgCells S0), .bool true],.agg (sgCells (askS s)),.int .u32 (cok s),.int .i64 room,.int .i64 now,.tuple #[.agg (cnCells C0), .agg (sgCells S0), .bool true],.agg (cnCells C0),.agg (sgCells S0),.bool true,.bool true,.bool false,U,.pointer (some ⟨qw23.heap.size, 0, none⟩),.pointer (some ⟨qw23.heap.size, 31, none⟩),.pointer (some ⟨qw23.heap.size, 28, none⟩),U,U,U,U,U,U,U,U,U,U,U,U,U,U] ?_
        go_upto_region 10 with (fail)
        refine wp_region_low (fun x y => x.heap.size ≤ y.heap.size) (fun i x v => match i with
            | 0 => v = .pointer (some ⟨qw4.heap.size, 3, none⟩)
            | 1 => v = .int .u32 s.ak
            | 2 => v = .pointer (some ⟨qw4.heap.size, 3, none⟩)
            | 3 => v = .int .u32 s.ak
            | 4 => v = .pointer (some ⟨qw4.heap.size, 3, none⟩)
            | 5 => v = .int .u32 s.ak
            | 6 => v = .pointer (some ⟨qw4.heap.size, 3, none⟩)
            | 7 => v = .int .u32 s.ak
            | 8 => v = .pointer (some ⟨qw23.heap.size, 2, none⟩)
            | 10 => v = .pointer (some ⟨qw23.heap.size, 8, none⟩)
            | 11 => v = .pointer (some ⟨qw23.heap.size, 8, none⟩)
            | 13 => v = .pointer (some ⟨qw23.heap.size, 3, none⟩)
            | 15 => v = .pointer (some ⟨qw23.heap.size, 4, none⟩)
            | _ => True) (fun f vals x => Blk w.heap.size x #[.int .u32 h, .int .i64 p] ∧ Blk qw1.heap.size x #[.int .u32 j, .int .i64 q] ∧ Blk qw4.heap.size x (sgCells s) ∧ Blk qw7.heap.size x (cnCells cnZero) ∧ Blk qw15.heap.size x (sgCells (askS s)) ∧ Blk qw25.heap.size x (sgCells S0) ∧ Laid0 x ∧ qw43.heap.size ≤ x.heap.size ∧ Since w x ∧ Blk qw23.heap.size x (cnCells (bag ({ C0 with st := 3, agn := 0, tmg := false }) s.ak (f 9) (f 12) (f 14) (f 16)))) (fun v => { tmps := #[.int .u32 k0, .agg #[.int .u32 h, .int .i64 p], .agg #[.int .u32 j, .int .i64 q], .int .i64 e, .agg (sgCells s), .int .i64 room, .int .i64 now, undef, .pointer (some ⟨w.heap.size, 0, none⟩), .pointer (some ⟨qw1.heap.size, 0, none⟩), undef, .pointer (some ⟨qw4.heap.size, 0, none⟩), undef, undef, .pointer (some ⟨qw7.heap.size, 0, none⟩), .bool false, .int .u32 (cok s), .int .i64 ks, .bool true, .pointer (some ⟨qw15.heap.size, 0, none⟩), .pointer (some ⟨qw23.heap.size, 0, none⟩), .pointer (some ⟨qw25.heap.size, 0, none⟩), .bool true, .pointer (some ⟨qw4.heap.size, 3, none⟩), .int .u32 s.ak, .int .u32 (cok s), .tuple #[.int .i64 ks, .bool true], .int .u32 k0, .agg #[.int .u32 h, .int .i64 p], .agg #[.int .u32 j, .int .i64 q], .int .i64 e, .int .u32 (cok s), .tuple #[.int .i64 ks, .bool true], .int .i64 ks, .bool true, .bool true, .bool false, .bool false, .agg (sgCells s), .bool true, .bool false, .bool false, undef, .pointer (some ⟨qw4.heap.size, 2, none⟩), .int .u32 s.sq, .int .u32 ((s.sq - 1) % 4294967296), .pointer (some ⟨qw4.heap.size, 5, none⟩), .int .i64 s.wn, .agg (sgCells (askS s)), .tuple #[.agg (cnCells C0), .agg (sgCells S0), .bool true], .agg (sgCells (askS s)), .int .u32 (cok s), .int .i64 room, .int .i64 now, .tuple #[.agg (cnCells C0), .agg (sgCells S0), .bool true], .agg (cnCells C0), .agg (sgCells S0), .bool true, .bool true, .bool false, undef, .pointer (some ⟨qw23.heap.size, 0, none⟩), .pointer (some ⟨qw23.heap.size, 31, none⟩), .pointer (some ⟨qw23.heap.size, 28, none⟩), v 0, v 1, v 2, v 3, v 4, v 5, v 6, v 7, v 8, v 10, v 11, v 13, v 15, undef], defers := [] }) (by kernel_rfl) (by kernel_rfl) ?_ ?_ (fun vals => by kernel_rfl) ?_ ?_
        case refine_1 =>
          intro j x y v hl hv
          match j, hv with
          | 0, hv | 1, hv | 2, hv | 3, hv | 4, hv | 5, hv | 6, hv | 7, hv | 8, hv | 10, hv | 11, hv | 13, hv | 15, hv => exact hv
          | 9, hv | 12, hv | 14, hv | 16, hv => trivial
          | n + 17, _ => trivial
        case refine_2 =>
          intro f vals hf
          refine ⟨qB2.since ((Since.refl _).drew), qB5.since ((Since.refl _).drew), qB8.since ((Since.refl _).drew), qB11.since ((Since.refl _).drew), qB22.since ((Since.refl _).drew), qB36.since ((Since.refl _).drew), E.since ((Since.refl _).drew), ((Since.refl _).drew).size, G.trans ((Since.refl _).drew), by rw [hf, hf, hf, hf]; exact qB45.since ((Since.refl _).drew)⟩
        case refine_3 =>
          repeat (first | exact eachLow_nil | refine eachLow_cons ?_ ?_)
          all_goals intro f vals x hf hr hK
          all_goals obtain ⟨k0, k1, k2, k3, k4, k5, k6, k7, k8, k9⟩ := hK
          · skip
            have e7 : vals 7 = .int .u32 s.ak := (hr ⟨7, .data⟩ (by simp) rfl).2
            have e15 : vals 15 = .pointer (some ⟨qw23.heap.size, 4, none⟩) := (hr ⟨15, .data⟩ (by simp) rfl).2
            have B0 : Blk qw23.heap.size x (cnCells (bag ({ C0 with st := 3, agn := 0, tmg := false }) s.ak (f 9) (f 12) (f 14) false)) := by have := k9; rw [hf] at this; exact this
            refine does_cellT (cs' := cnCells (bag ({ C0 with st := 3, agn := 0, tmg := false }) s.ak (f 9) (f 12) (f 14) true)) B0 _ _ _ rfl 4 e15 (.int .u32 s.ak) e7 rfl (by kernel_rfl) (by rw [cn_size]; decide) rfl ?_
            intro z t B
            exact ⟨t.size, ⟨k0.touch t (by omega), k1.touch t (by omega), k2.touch t (by omega), k3.touch t (by omega), k4.touch t (by omega), k5.touch t (by omega), k6.touch t (by omega), Nat.le_trans k7 t.size, since_touch k8 t (by omega), B⟩, trivial⟩
          · skip
            exact does_valT (.pointer (some ⟨qw23.heap.size, 4, none⟩)) x (by kernel_rfl) ⟨Nat.le_refl _, ⟨k0, k1, k2, k3, k4, k5, k6, k7, k8, k9⟩, rfl⟩
          · skip
            have e5 : vals 5 = .int .u32 s.ak := (hr ⟨5, .data⟩ (by simp) rfl).2
            have e13 : vals 13 = .pointer (some ⟨qw23.heap.size, 3, none⟩) := (hr ⟨13, .data⟩ (by simp) rfl).2
            have B0 : Blk qw23.heap.size x (cnCells (bag ({ C0 with st := 3, agn := 0, tmg := false }) s.ak (f 9) (f 12) false (f 16))) := by have := k9; rw [hf] at this; exact this
            refine does_cellT (cs' := cnCells (bag ({ C0 with st := 3, agn := 0, tmg := false }) s.ak (f 9) (f 12) true (f 16))) B0 _ _ _ rfl 3 e13 (.int .u32 s.ak) e5 rfl (by kernel_rfl) (by rw [cn_size]; decide) rfl ?_
            intro z t B
            exact ⟨t.size, ⟨k0.touch t (by omega), k1.touch t (by omega), k2.touch t (by omega), k3.touch t (by omega), k4.touch t (by omega), k5.touch t (by omega), k6.touch t (by omega), Nat.le_trans k7 t.size, since_touch k8 t (by omega), B⟩, trivial⟩
          · skip
            exact does_valT (.pointer (some ⟨qw23.heap.size, 3, none⟩)) x (by kernel_rfl) ⟨Nat.le_refl _, ⟨k0, k1, k2, k3, k4, k5, k6, k7, k8, k9⟩, rfl⟩
          · skip
            have e3 : vals 3 = .int .u32 s.ak := (hr ⟨3, .data⟩ (by simp) rfl).2
            have e11 : vals 11 = .pointer (some ⟨qw23.heap.size, 8, none⟩) := (hr ⟨11, .data⟩ (by simp) rfl).2
            have B0 : Blk qw23.heap.size x (cnCells (bag ({ C0 with st := 3, agn := 0, tmg := false }) s.ak (f 9) false (f 14) (f 16))) := by have := k9; rw [hf] at this; exact this
            refine does_cellT (cs' := cnCells (bag ({ C0 with st := 3, agn := 0, tmg := false }) s.ak (f 9) true (f 14) (f 16))) B0 _ _ _ rfl 8 e11 (.int .u32 s.ak) e3 rfl (by kernel_rfl) (by rw [cn_size]; decide) rfl ?_
            intro z t B
            exact ⟨t.size, ⟨k0.touch t (by omega), k1.touch t (by omega), k2.touch t (by omega), k3.touch t (by omega), k4.touch t (by omega), k5.touch t (by omega), k6.touch t (by omega), Nat.le_trans k7 t.size, since_touch k8 t (by omega), B⟩, trivial⟩
          · skip
            have e10 : vals 10 = .pointer (some ⟨qw23.heap.size, 8, none⟩) := (hr ⟨10, .data⟩ (by simp) rfl).2
            exact does_valT (.pointer (some ⟨qw23.heap.size, 8, none⟩)) x (by simp only [e10]; kernel_rfl) ⟨Nat.le_refl _, ⟨k0, k1, k2, k3, k4, k5, k6, k7, k8, k9⟩, rfl⟩
          · skip
            exact does_valT (.pointer (some ⟨qw23.heap.size, 8, none⟩)) x (by kernel_rfl) ⟨Nat.le_refl _, ⟨k0, k1, k2, k3, k4, k5, k6, k7, k8, k9⟩, rfl⟩
          · skip
            have e1 : vals 1 = .int .u32 s.ak := (hr ⟨1, .data⟩ (by simp) rfl).2
            have e8 : vals 8 = .pointer (some ⟨qw23.heap.size, 2, none⟩) := (hr ⟨8, .data⟩ (by simp) rfl).2
            have B0 : Blk qw23.heap.size x (cnCells (bag ({ C0 with st := 3, agn := 0, tmg := false }) s.ak false (f 12) (f 14) (f 16))) := by have := k9; rw [hf] at this; exact this
            refine does_cellT (cs' := cnCells (bag ({ C0 with st := 3, agn := 0, tmg := false }) s.ak true (f 12) (f 14) (f 16))) B0 _ _ _ rfl 2 e8 (.int .u32 s.ak) e1 rfl (by kernel_rfl) (by rw [cn_size]; decide) rfl ?_
            intro z t B
            exact ⟨t.size, ⟨k0.touch t (by omega), k1.touch t (by omega), k2.touch t (by omega), k3.touch t (by omega), k4.touch t (by omega), k5.touch t (by omega), k6.touch t (by omega), Nat.le_trans k7 t.size, since_touch k8 t (by omega), B⟩, trivial⟩
          · skip
            exact does_valT (.pointer (some ⟨qw23.heap.size, 2, none⟩)) x (by kernel_rfl) ⟨Nat.le_refl _, ⟨k0, k1, k2, k3, k4, k5, k6, k7, k8, k9⟩, rfl⟩
          · skip
            have e6 : vals 6 = .pointer (some ⟨qw4.heap.size, 3, none⟩) := (hr ⟨6, .data⟩ (by simp) rfl).2
            have fl : x.cell? ⟨qw4.heap.size, 3, none⟩ = some (.int .u32 s.ak) := k2.cell 3
            simp [does, doesUpon, go_sem, e6, fl]
            exact ⟨k0, k1, k2, k3, k4, k5, k6, k7, k8, k9⟩
          · skip
            exact does_valT (.pointer (some ⟨qw4.heap.size, 3, none⟩)) x (by kernel_rfl) ⟨Nat.le_refl _, ⟨k0, k1, k2, k3, k4, k5, k6, k7, k8, k9⟩, rfl⟩
          · skip
            have e4 : vals 4 = .pointer (some ⟨qw4.heap.size, 3, none⟩) := (hr ⟨4, .data⟩ (by simp) rfl).2
            have fl : x.cell? ⟨qw4.heap.size, 3, none⟩ = some (.int .u32 s.ak) := k2.cell 3
            simp [does, doesUpon, go_sem, e4, fl]
            exact ⟨k0, k1, k2, k3, k4, k5, k6, k7, k8, k9⟩
          · skip
            exact does_valT (.pointer (some ⟨qw4.heap.size, 3, none⟩)) x (by kernel_rfl) ⟨Nat.le_refl _, ⟨k0, k1, k2, k3, k4, k5, k6, k7, k8, k9⟩, rfl⟩
          · skip
            have e2 : vals 2 = .pointer (some ⟨qw4.heap.size, 3, none⟩) := (hr ⟨2, .data⟩ (by simp) rfl).2
            have fl : x.cell? ⟨qw4.heap.size, 3, none⟩ = some (.int .u32 s.ak) := k2.cell 3
            simp [does, doesUpon, go_sem, e2, fl]
            exact ⟨k0, k1, k2, k3, k4, k5, k6, k7, k8, k9⟩
          · skip
            exact does_valT (.pointer (some ⟨qw4.heap.size, 3, none⟩)) x (by kernel_rfl) ⟨Nat.le_refl _, ⟨k0, k1, k2, k3, k4, k5, k6, k7, k8, k9⟩, rfl⟩
          · skip
            have e0 : vals 0 = .pointer (some ⟨qw4.heap.size, 3, none⟩) := (hr ⟨0, .data⟩ (by simp) rfl).2
            have fl : x.cell? ⟨qw4.heap.size, 3, none⟩ = some (.int .u32 s.ak) := k2.cell 3
            simp [does, doesUpon, go_sem, e0, fl]
            exact ⟨k0, k1, k2, k3, k4, k5, k6, k7, k8, k9⟩
          · skip
            exact does_valT (.pointer (some ⟨qw4.heap.size, 3, none⟩)) x (by kernel_rfl) ⟨Nat.le_refl _, ⟨k0, k1, k2, k3, k4, k5, k6, k7, k8, k9⟩, rfl⟩
        intro f qv47 qw46 hK hf hv
        obtain ⟨k0, k1, k2, k3, k4, k5, k6, k7, k8, k9⟩ := hK
        rw [hf 9 (by decide), hf 12 (by decide), hf 14 (by decide), hf 16 (by decide)] at k9
        clear qB2 qB5 qB8 qB11 qB22 qB45 qB36 E G
        have hv0 : qv47 0 = _ := hv 0 (by decide)
        have hv1 : qv47 1 = _ := hv 1 (by decide)
        have hv2 : qv47 2 = _ := hv 2 (by decide)
        have hv3 : qv47 3 = _ := hv 3 (by decide)
        have hv4 : qv47 4 = _ := hv 4 (by decide)
        have hv5 : qv47 5 = _ := hv 5 (by decide)
        have hv6 : qv47 6 = _ := hv 6 (by decide)
        have hv7 : qv47 7 = _ := hv 7 (by decide)
        have hv8 : qv47 8 = _ := hv 8 (by decide)
        have hv10 : qv47 10 = _ := hv 10 (by decide)
        have hv11 : qv47 11 = _ := hv 11 (by decide)
        have hv13 : qv47 13 = _ := hv 13 (by decide)
        have hv15 : qv47 15 = _ := hv 15 (by decide)
        clear hv hf
        simp only [hv0, hv1, hv2, hv3, hv4, hv5, hv6, hv7, hv8, hv10, hv11, hv13, hv15]
        clear hv0 hv1 hv2 hv3 hv4 hv5 hv6 hv7 hv8 hv10 hv11 hv13 hv15
        have qB2 := k0
        clear k0
        have qB5 := k1
        clear k1
        have qB8 := k2
        clear k2
        have qB11 := k3
        clear k3
        have qB22 := k4
        clear k4
        have qB36 := k5
        clear k5
        have E := k6
        have G := k8
        have qw46_l := k7
        have qB48 : Blk qw23.heap.size qw46 (cnCells (bag ({ C0 with st := 3, agn := 0, tmg := false }) s.ak true true true true)) := k9
        clear k6 k7 k8 k9
        go_upto_region 11 with (fail)
        refine vR ?_
        refine vB cn_big qB48 (cn_size _) ?_
        refine sB (cnCells (bag ({ C0 with st := 3, agn := 0, tmg := false }) s.ak true true true true)) cn_big qB11 (cn_size _) (cn_size _) (cn_one _) ?_
        intro qw49 qt50 qB51
        clear qB11
        replace qB2 := qB2.touch qt50 (by omega)
        replace qB5 := qB5.touch qt50 (by omega)
        replace qB8 := qB8.touch qt50 (by omega)
        replace qB22 := qB22.touch qt50 (by omega)
        replace qB48 := qB48.touch qt50 (by omega)
        replace qB36 := qB36.touch qt50 (by omega)
        replace E := E.touch qt50 (by omega)
        replace G := since_touch G qt50 (by omega)
        have qt50_s := qt50.size
        refine vV (.bool true) ?_
        refine vE #[.int .u32 k0,.agg #[.int .u32 h, .int .i64 p],.agg #[.int .u32 j, .int .i64 q],.int .i64 e,.agg (sgCells s),.int .i64 room,.int .i64 now,U,.pointer (some ⟨w.heap.size, 0, none⟩),.pointer (some ⟨qw1.heap.size, 0, none⟩),U,.pointer (some ⟨qw4.heap.size, 0, none⟩),U,U,.pointer (some ⟨qw7.heap.size, 0, none⟩),.bool true,.int .u32 (cok s),.int .i64 ks,.bool true,.pointer (some ⟨qw15.heap.size, 0, none⟩),.pointer (some ⟨qw23.heap.size, 0, none⟩),.pointer (some ⟨qw25.heap.size, 0, none⟩),.bool true,.pointer (some ⟨qw4.heap.size, 3, none⟩),.int .u32 s.ak,.int .u32 (cok s),.tuple #[.int .i64 ks, .bool true],.int .u32 k0,.agg #[.int .u32 h, .int .i64 p],.agg #[.int .u32 j, .int .i64 q],.int .i64 e,.int .u32 (cok s),.tuple #[.int .i64 ks, .bool true],.int .i64 ks,.bool true,.bool true,.bool false,.bool false,.agg (sgCells s),.bool true,.bool false,.bool false,U,.pointer (some ⟨qw4.heap.size, 2, none⟩),.int .u32 s.sq,.int .u32 ((s.sq - 1) % 4294967296),.pointer (some ⟨qw4.heap.size, 5, none⟩),.int .i64 s.wn,.agg (sgCells (askS s)),.tuple #[.agg (cnCells C0), .agg (sgCells S0), .bool true],.agg (sgCells (askS s)),.int .u32 (cok s),.int .i64 room,.int .i64 now,.tuple #[.agg (cnCells C0), .agg (sgCells S0), .bool true],.agg (cnCells C0),.agg (sgCells S0),.bool true,.bool true,.bool false,U,.pointer (some ⟨qw23.heap.size, 0, none⟩),.pointer (some ⟨qw23.heap.size, 31, none⟩),.pointer (some ⟨qw23.heap.size, 28, none⟩),.pointer (some ⟨qw4.heap.size, 3, none⟩),.int .u32 s.ak,.pointer (some ⟨qw4.heap.size, 3, none⟩),.int .u32 s.ak,.pointer (some ⟨qw4.heap.size, 3, none⟩),.int .u32 s.ak,.pointer (some ⟨qw4.heap.size, 3, none⟩),.int .u32 s.ak,.pointer (some ⟨qw23.heap.size, 2, none⟩),.pointer (some ⟨qw23.heap.size, 8, none⟩),.pointer (some ⟨qw23.heap.size, 8, none⟩),.pointer (some ⟨qw23.heap.size, 3, none⟩),.pointer (some ⟨qw23.heap.size, 4, none⟩),.agg (cnCells (bag ({ C0 with st := 3, agn := 0, tmg := false }) s.ak true true true true))] ?_
        go_wp2_with (fail)
        exact bodyPost_ret (v := .tuple #[.agg (cnCells (bag ({ C0 with st := 3, agn := 0, tmg := false }) s.ak true true true true)), .bool true]) (results_cn2 (t := 14) (u := 15) rfl _ rfl qB51) rfl ⟨by rw [hV.out, tak_yes (by unfold takOk; rw [c1.out, c4.out, decide_eq_true c5]; rfl), takC, ← hC0.out]; rfl, G⟩
      · simp only [if_neg c5] at hh
        refine vR ?_
        refine vV (.int .u32 k0) ?_
        refine vB ad_big qB2 rfl ?_
        refine vB ad_big qB5 rfl ?_
        refine vV (.int .i64 e) ?_
        refine vV (.int .u32 (cok s)) ?_
        refine vK (hck _) ?_
        intro qw13 qg14
        replace qB2 := qB2.since qg14
        replace qB5 := qB5.since qg14
        replace qB8 := qB8.since qg14
        replace qB11 := qB11.since qg14
        replace E := E.since qg14
        replace G := G.trans qg14
        have qg14_s := qg14.size
        refine vV (.tuple #[.int .i64 ks, .bool true]) ?_
        refine vV (.int .i64 ks) ?_
        refine vV (.bool true) ?_
        refine vV (.int .i64 ks) ?_
        refine vV (.bool true) ?_
        refine vE #[.int .u32 k0,.agg #[.int .u32 h, .int .i64 p],.agg #[.int .u32 j, .int .i64 q],.int .i64 e,.agg (sgCells s),.int .i64 room,.int .i64 now,U,.pointer (some ⟨w.heap.size, 0, none⟩),.pointer (some ⟨qw1.heap.size, 0, none⟩),U,.pointer (some ⟨qw4.heap.size, 0, none⟩),U,U,.pointer (some ⟨qw7.heap.size, 0, none⟩),.bool false,.int .u32 (cok s),.int .i64 ks,.bool true,U,U,U,U,.pointer (some ⟨qw4.heap.size, 3, none⟩),.int .u32 s.ak,.int .u32 (cok s),.tuple #[.int .i64 ks, .bool true],.int .u32 k0,.agg #[.int .u32 h, .int .i64 p],.agg #[.int .u32 j, .int .i64 q],.int .i64 e,.int .u32 (cok s),.tuple #[.int .i64 ks, .bool true],.int .i64 ks,.bool true,U,U,U,U,U,U,U,U,U,U,U,U,U,U,U,U,U,U,U,U,U,U,U,U,U,U,U,U,U,U,U,U,U,U,U,U,U,U,U,U,U,U,U] ?_
        go_upto_region 3 with (fail)
        refine vR ?_
        refine vV (.bool true) ?_
        refine vV (.bool false) ?_
        refine vV (.bool false) ?_
        refine vB seg_big qB8 rfl ?_
        refine vK (hgo _) ?_
        intro qw15 qg16
        replace qB2 := qB2.since qg16
        replace qB5 := qB5.since qg16
        replace qB8 := qB8.since qg16
        replace qB11 := qB11.since qg16
        replace E := E.since qg16
        replace G := G.trans qg16
        have qg16_s := qg16.size
        refine vV (.bool false) ?_
        refine vV (.bool false) ?_
        refine vE #[.int .u32 k0,.agg #[.int .u32 h, .int .i64 p],.agg #[.int .u32 j, .int .i64 q],.int .i64 e,.agg (sgCells s),.int .i64 room,.int .i64 now,U,.pointer (some ⟨w.heap.size, 0, none⟩),.pointer (some ⟨qw1.heap.size, 0, none⟩),U,.pointer (some ⟨qw4.heap.size, 0, none⟩),U,U,.pointer (some ⟨qw7.heap.size, 0, none⟩),.bool false,.int .u32 (cok s),.int .i64 ks,.bool true,U,U,U,U,.pointer (some ⟨qw4.heap.size, 3, none⟩),.int .u32 s.ak,.int .u32 (cok s),.tuple #[.int .i64 ks, .bool true],.int .u32 k0,.agg #[.int .u32 h, .int .i64 p],.agg #[.int .u32 j, .int .i64 q],.int .i64 e,.int .u32 (cok s),.tuple #[.int .i64 ks, .bool true],.int .i64 ks,.bool true,.bool true,.bool false,.bool false,.agg (sgCells s),.bool true,.bool false,.bool false,U,U,U,U,U,U,U,U,U,U,U,U,U,U,U,U,U,U,U,U,U,U,U,U,U,U,U,U,U,U,U,U,U,U,U,U] ?_
        go_upto_region 5 with (fail)
        refine vR ?_
        refine vV (.pointer (some ⟨qw4.heap.size, 2, none⟩)) ?_
        refine vD (.int .u32 s.sq) (qB8.cell 2) ?_
        refine vV (.int .u32 ((s.sq - 1) % 4294967296)) ?_
        refine vV (.pointer (some ⟨qw4.heap.size, 5, none⟩)) ?_
        refine vD (.int .i64 s.wn) (qB8.cell 5) ?_
        refine vV (.agg (sgCells (askS s))) ?_
        refine vW (qw15.alloc (.cells (sgCells sgZero) 28)) (.pointer (some ⟨qw15.heap.size, 0, none⟩)) ?_
        have qB18 := Blk.new qw15 (sgCells sgZero) 28
        have qg19 := (Since.refl qw15).alloc (.cells (sgCells sgZero) 28)
        replace qB2 := qB2.since qg19
        replace qB5 := qB5.since qg19
        replace qB8 := qB8.since qg19
        replace qB11 := qB11.since qg19
        replace E := E.since qg19
        replace G := G.trans qg19
        generalize qw15.alloc (.cells (sgCells sgZero) 28) = qw17 at qB2 qB5 qB8 qB11 E G qB18 qg19 ⊢
        have qB18_l := qB18.lt
        have qg19_s := qg19.size
        refine sB (sgCells (askS s)) seg_big qB18 rfl rfl (seg_one _ _ _ _ _ _ _ _) ?_
        intro qw20 qt21 qB22
        clear qB18
        replace qB2 := qB2.touch qt21 (by omega)
        replace qB5 := qB5.touch qt21 (by omega)
        replace qB8 := qB8.touch qt21 (by omega)
        replace qB11 := qB11.touch qt21 (by omega)
        replace E := E.touch qt21 (by omega)
        replace G := since_touch G qt21 (by omega)
        have qt21_s := qt21.size
        refine vE #[.int .u32 k0,.agg #[.int .u32 h, .int .i64 p],.agg #[.int .u32 j, .int .i64 q],.int .i64 e,.agg (sgCells s),.int .i64 room,.int .i64 now,U,.pointer (some ⟨w.heap.size, 0, none⟩),.pointer (some ⟨qw1.heap.size, 0, none⟩),U,.pointer (some ⟨qw4.heap.size, 0, none⟩),U,U,.pointer (some ⟨qw7.heap.size, 0, none⟩),.bool false,.int .u32 (cok s),.int .i64 ks,.bool true,.pointer (some ⟨qw15.heap.size, 0, none⟩),U,U,U,.pointer (some ⟨qw4.heap.size, 3, none⟩),.int .u32 s.ak,.int .u32 (cok s),.tuple #[.int .i64 ks, .bool true],.int .u32 k0,.agg #[.int .u32 h, .int .i64 p],.agg #[.int .u32 j, .int .i64 q],.int .i64 e,.int .u32 (cok s),.tuple #[.int .i64 ks, .bool true],.int .i64 ks,.bool true,.bool true,.bool false,.bool false,.agg (sgCells s),.bool true,.bool false,.bool false,U,.pointer (some ⟨qw4.heap.size, 2, none⟩),.int .u32 s.sq,.int .u32 ((s.sq - 1) % 4294967296),.pointer (some ⟨qw4.heap.size, 5, none⟩),.int .i64 s.wn,.agg (sgCells (askS s)),U,U,U,U,U,U,U,U,U,U,U,U,U,U,U,U,U,U,U,U,U,U,U,U,U,U,U,U,U] ?_
        go_upto_region 6 with (fail)
        refine vR ?_
        refine vB seg_big qB22 rfl ?_
        refine vV (.int .u32 (cok s)) ?_
        refine vV (.int .i64 room) ?_
        refine vV (.int .i64 now) ?_
        refine vK (hh _ E) ?_
        intro qw23 qg24
        replace qB2 := qB2.since qg24
        replace qB5 := qB5.since qg24
        replace qB8 := qB8.since qg24
        replace qB11 := qB11.since qg24
        replace qB22 := qB22.since qg24
        replace E := E.since qg24
        replace G := G.trans qg24
        have qg24_s := qg24.size
        refine vV (.tuple #[.agg (cnCells cnZero), .agg (sgCells sgZero), .bool false]) ?_
        refine vV (.agg (cnCells cnZero)) ?_
        refine vV (.agg (sgCells sgZero)) ?_
        refine vV (.bool false) ?_
        refine vW (qw23.alloc (.cells (cnCells cnZero) 46)) (.pointer (some ⟨qw23.heap.size, 0, none⟩)) ?_
        have qB26 := Blk.new qw23 (cnCells cnZero) 46
        have qg27 := (Since.refl qw23).alloc (.cells (cnCells cnZero) 46)
        replace qB2 := qB2.since qg27
        replace qB5 := qB5.since qg27
        replace qB8 := qB8.since qg27
        replace qB11 := qB11.since qg27
        replace qB22 := qB22.since qg27
        replace E := E.since qg27
        replace G := G.trans qg27
        generalize qw23.alloc (.cells (cnCells cnZero) 46) = qw25 at qB2 qB5 qB8 qB11 qB22 E G qB26 qg27 ⊢
        have qB26_l := qB26.lt
        have qg27_s := qg27.size
        refine vW (qw25.alloc (.cells (sgCells sgZero) 28)) (.pointer (some ⟨qw25.heap.size, 0, none⟩)) ?_
        have qB29 := Blk.new qw25 (sgCells sgZero) 28
        have qg30 := (Since.refl qw25).alloc (.cells (sgCells sgZero) 28)
        replace qB2 := qB2.since qg30
        replace qB5 := qB5.since qg30
        replace qB8 := qB8.since qg30
        replace qB11 := qB11.since qg30
        replace qB22 := qB22.since qg30
        replace qB26 := qB26.since qg30
        replace E := E.since qg30
        replace G := G.trans qg30
        generalize qw25.alloc (.cells (sgCells sgZero) 28) = qw28 at qB2 qB5 qB8 qB11 qB22 qB26 E G qB29 qg30 ⊢
        have qB29_l := qB29.lt
        have qg30_s := qg30.size
        refine sB (cnCells cnZero) cn_big qB26 (cn_size _) (cn_size _) (cn_one _) ?_
        intro qw31 qt32 qB33
        clear qB26
        replace qB2 := qB2.touch qt32 (by omega)
        replace qB5 := qB5.touch qt32 (by omega)
        replace qB8 := qB8.touch qt32 (by omega)
        replace qB11 := qB11.touch qt32 (by omega)
        replace qB22 := qB22.touch qt32 (by omega)
        replace qB29 := qB29.touch qt32 (by omega)
        replace E := E.touch qt32 (by omega)
        replace G := since_touch G qt32 (by omega)
        have qt32_s := qt32.size
        refine sB (sgCells sgZero) seg_big qB29 rfl rfl (seg_one _ _ _ _ _ _ _ _) ?_
        intro qw34 qt35 qB36
        clear qB29
        replace qB2 := qB2.touch qt35 (by omega)
        replace qB5 := qB5.touch qt35 (by omega)
        replace qB8 := qB8.touch qt35 (by omega)
        replace qB11 := qB11.touch qt35 (by omega)
        replace qB22 := qB22.touch qt35 (by omega)
        replace qB33 := qB33.touch qt35 (by omega)
        replace E := E.touch qt35 (by omega)
        replace G := since_touch G qt35 (by omega)
        have qt35_s := qt35.size
        refine vV (.bool false) ?_
        refine vE #[.int .u32 k0,.agg #[.int .u32 h, .int .i64 p],.agg #[.int .u32 j, .int .i64 q],.int .i64 e,.agg (sgCells s),.int .i64 room,.int .i64 now,U,.pointer (some ⟨w.heap.size, 0, none⟩),.pointer (some ⟨qw1.heap.size, 0, none⟩),U,.pointer (some ⟨qw4.heap.size, 0, none⟩),U,U,.pointer (some ⟨qw7.heap.size, 0, none⟩),.bool false,.int .u32 (cok s),.int .i64 ks,.bool true,.pointer (some ⟨qw15.heap.size, 0, none⟩),.pointer (some ⟨qw23.heap.size, 0, none⟩),.pointer (some ⟨qw25.heap.size, 0, none⟩),.bool false,.pointer (some ⟨qw4.heap.size, 3, none⟩),.int .u32 s.ak,.int .u32 (cok s),.tuple #[.int .i64 ks, .bool true],.int .u32 k0,.agg #[.int .u32 h, .int .i64 p],.agg #[.int .u32 j, .int .i64 q],.int .i64 e,.int .u32 (cok s),.tuple #[.int .i64 ks, .bool true],.int .i64 ks,.bool true,.bool true,.bool false,.bool false,.agg (sgCells s),.bool true,.bool false,.bool false,U,.pointer (some ⟨qw4.heap.size, 2, none⟩),.int .u32 s.sq,.int .u32 ((s.sq - 1) % 4294967296),.pointer (some ⟨qw4.heap.size, 5, none⟩),.int .i64 s.wn,.agg (sgCells (askS s)),.tuple #[.agg (cnCells cnZero), .agg (sgCells sgZero), .bool false],.agg (sgCells (askS s)),.int .u32 (cok s),.int .i64 room,.int .i64 now,.tuple #[.agg (cnCells cnZero), .agg (sgCells sgZero), .bool false],.agg (cnCells cnZero),.agg (sgCells sgZero),.bool false,U,U,U,U,U,U,U,U,U,U,U,U,U,U,U,U,U,U,U,U] ?_
        go_upto_region 7 with (fail)
        refine vR ?_
        refine vV (.bool false) ?_
        refine vV (.bool true) ?_
        refine vE #[.int .u32 k0,.agg #[.int .u32 h, .int .i64 p],.agg #[.int .u32 j, .int .i64 q],.int .i64 e,.agg (sgCells s),.int .i64 room,.int .i64 now,U,.pointer (some ⟨w.heap.size, 0, none⟩),.pointer (some ⟨qw1.heap.size, 0, none⟩),U,.pointer (some ⟨qw4.heap.size, 0, none⟩),U,U,.pointer (some ⟨qw7.heap.size, 0, none⟩),.bool false,.int .u32 (cok s),.int .i64 ks,.bool true,.pointer (some ⟨qw15.heap.size, 0, none⟩),.pointer (some ⟨qw23.heap.size, 0, none⟩),.pointer (some ⟨qw25.heap.size, 0, none⟩),.bool false,.pointer (some ⟨qw4.heap.size, 3, none⟩),.int .u32 s.ak,.int .u32 (cok s),.tuple #[.int .i64 ks, .bool true],.int .u32 k0,.agg #[.int .u32 h, .int .i64 p],.agg #[.int .u32 j, .int .i64 q],.int .i64 e,.int .u32 (cok s),.tuple #[.int .i64 ks, .bool true],.int .i64 ks,.bool true,.bool true,.bool false,.bool false,.agg (sgCells s),.bool true,.bool false,.bool false,U,.pointer (some ⟨qw4.heap.size, 2, none⟩),.int .u32 s.sq,.int .u32 ((s.sq - 1) % 4294967296),.pointer (some ⟨qw4.heap.size, 5, none⟩),.int .i64 s.wn,.agg (sgCells (askS s)),.tuple #[.agg (cnCells cnZero), .agg (sgCells sgZero), .bool false],.agg (sgCells (askS s)),.int .u32 (cok s),.int .i64 room,.int .i64 now,.tuple #[.agg (cnCells cnZero), .agg (sgCells sgZero), .bool false],.agg (cnCells cnZero),.agg (sgCells sgZero),.bool false,.bool false,.bool true,U,U,U,U,U,U,U,U,U,U,U,U,U,U,U,U,U,U] ?_
        go_upto_region 8 with (fail)
        refine vR ?_
        refine vV (.agg (cnCells cnZero)) ?_
        refine sB (cnCells cnZero) cn_big qB11 (cn_size _) (cn_size _) (cn_one _) ?_
        intro qw37 qt38 qB39
        clear qB11
        replace qB2 := qB2.touch qt38 (by omega)
        replace qB5 := qB5.touch qt38 (by omega)
        replace qB8 := qB8.touch qt38 (by omega)
        replace qB22 := qB22.touch qt38 (by omega)
        replace qB33 := qB33.touch qt38 (by omega)
        replace qB36 := qB36.touch qt38 (by omega)
        replace E := E.touch qt38 (by omega)
        replace G := since_touch G qt38 (by omega)
        have qt38_s := qt38.size
        refine vV (.bool false) ?_
        refine vE #[.int .u32 k0,.agg #[.int .u32 h, .int .i64 p],.agg #[.int .u32 j, .int .i64 q],.int .i64 e,.agg (sgCells s),.int .i64 room,.int .i64 now,U,.pointer (some ⟨w.heap.size, 0, none⟩),.pointer (some ⟨qw1.heap.size, 0, none⟩),U,.pointer (some ⟨qw4.heap.size, 0, none⟩),U,U,.pointer (some ⟨qw7.heap.size, 0, none⟩),.bool false,.int .u32 (cok s),.int .i64 ks,.bool true,.pointer (some ⟨qw15.heap.size, 0, none⟩),.pointer (some ⟨qw23.heap.size, 0, none⟩),.pointer (some ⟨qw25.heap.size, 0, none⟩),.bool false,.pointer (some ⟨qw4.heap.size, 3, none⟩),.int .u32 s.ak,.int .u32 (cok s),.tuple #[.int .i64 ks, .bool true],.int .u32 k0,.agg #[.int .u32 h, .int .i64 p],.agg #[.int .u32 j, .int .i64 q],.int .i64 e,.int .u32 (cok s),.tuple #[.int .i64 ks, .bool true],.int .i64 ks,.bool true,.bool true,.bool false,.bool false,.agg (sgCells s),.bool true,.bool false,.bool false,U,.pointer (some ⟨qw4.heap.size, 2, none⟩),.int .u32 s.sq,.int .u32 ((s.sq - 1) % 4294967296),.pointer (some ⟨qw4.heap.size, 5, none⟩),.int .i64 s.wn,.agg (sgCells (askS s)),.tuple #[.agg (cnCells cnZero), .agg (sgCells sgZero), .bool false],.agg (sgCells (askS s)),.int .u32 (cok s),.int .i64 room,.int .i64 now,.tuple #[.agg (cnCells cnZero), .agg (sgCells sgZero), .bool false],.agg (cnCells cnZero),.agg (sgCells sgZero),.bool false,.bool false,.bool true,.agg (cnCells cnZero),U,U,U,U,U,U,U,U,U,U,U,U,U,U,U,U,U] ?_
        go_wp2_with (fail)
        exact bodyPost_ret (v := .tuple #[.agg (cnCells cnZero), .bool false]) (results_cn2 (t := 14) (u := 15) rfl _ rfl qB39) rfl ⟨by rw [hV.out, tak_no (by unfold takOk; simp [c5])], G⟩
end Go.Proofs.YtjilpicpfddbfabDoor
