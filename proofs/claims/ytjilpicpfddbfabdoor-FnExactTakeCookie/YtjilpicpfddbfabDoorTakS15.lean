/-
  Who comes back with an answer of which nothing was kept: a contract of spec's TakeCookie.
-/
import Derived.Test.YtjilpicpfddbfabDoorTak15
import Derived.Deep.DeepCutAuto
namespace Go.Proofs.YtjilpicpfddbfabDoor
open Go.ChangeShapes Go.WideShapes Go.ChangeAt Go.RowKit Go.Deep
set_option linter.unusedVariables false
set_option maxRecDepth 10000

set_option maxRecDepth 20000 in
set_option maxHeartbeats 8000000 in
theorem specTake (k0 h p j q e : Int) (s : Sg) (room now : Int) (hf : IsInt s.fl) (w : World) :
    Calls Tryd.prog 11 #[.int .u32 k0, addrVal h p, addrVal j q, .int .i64 e, .agg (sgCells s), .int .i64 room, .int .i64 now] w fun f w' => f = .returned (takV k0 h p j q e s room now) ∧ Since w w' := by
  obtain ⟨V, hV⟩ : ∃ V, Hid (V = takV k0 h p j q e s room now) := ⟨_, rfl⟩
  rw [← hV.out]
  have G := Since.refl w
  have hck := fun wx => specCheck k0 h p j q e (cok s) (cok_word s) wx
  generalize ckStep k0 h p j q e (cok s) = ks at hck
  unfold addrVal at *
  go_enter Tryd.func11, Tryd.ntmps11
  go_upto_region 0 with (fail)
  refine vR ?_
  refine vW (w.alloc (.cells #[.int .u32 h, .int .i64 p] 31)) (.pointer (some ⟨w.heap.size, 0, none⟩)) ?_
  have qB2 := Blk.new w #[.int .u32 h, .int .i64 p] 31
  have qg3 := (Since.refl w).alloc (.cells #[.int .u32 h, .int .i64 p] 31)
  replace G := G.trans qg3
  generalize w.alloc (.cells #[.int .u32 h, .int .i64 p] 31) = qw1 at  G qB2 qg3 ⊢
  have qB2_l := qB2.lt
  have qg3_s := qg3.size
  refine vW (qw1.alloc (.cells #[.int .u32 j, .int .i64 q] 31)) (.pointer (some ⟨qw1.heap.size, 0, none⟩)) ?_
  have qB5 := Blk.new qw1 #[.int .u32 j, .int .i64 q] 31
  have qg6 := (Since.refl qw1).alloc (.cells #[.int .u32 j, .int .i64 q] 31)
  replace qB2 := qB2.since qg6
  replace G := G.trans qg6
  generalize qw1.alloc (.cells #[.int .u32 j, .int .i64 q] 31) = qw4 at qB2 G qB5 qg6 ⊢
  have qB5_l := qB5.lt
  have qg6_s := qg6.size
  refine vW (qw4.alloc (.cells (sgCells s) 28)) (.pointer (some ⟨qw4.heap.size, 0, none⟩)) ?_
  have qB8 := Blk.new qw4 (sgCells s) 28
  have qg9 := (Since.refl qw4).alloc (.cells (sgCells s) 28)
  replace qB2 := qB2.since qg9
  replace qB5 := qB5.since qg9
  replace G := G.trans qg9
  generalize qw4.alloc (.cells (sgCells s) 28) = qw7 at qB2 qB5 G qB8 qg9 ⊢
  have qB8_l := qB8.lt
  have qg9_s := qg9.size
  refine vW (qw7.alloc (.cells (cnCells cnZero) 46)) (.pointer (some ⟨qw7.heap.size, 0, none⟩)) ?_
  have qB11 := Blk.new qw7 (cnCells cnZero) 46
  have qg12 := (Since.refl qw7).alloc (.cells (cnCells cnZero) 46)
  replace qB2 := qB2.since qg12
  replace qB5 := qB5.since qg12
  replace qB8 := qB8.since qg12
  replace G := G.trans qg12
  generalize qw7.alloc (.cells (cnCells cnZero) 46) = qw10 at qB2 qB5 qB8 G qB11 qg12 ⊢
  have qB11_l := qB11.lt
  have qg12_s := qg12.size
  refine vV (.bool false) ?_
  refine vE #[.int .u32 k0,.agg #[.int .u32 h, .int .i64 p],.agg #[.int .u32 j, .int .i64 q],.int .i64 e,.agg (sgCells s),.int .i64 room,.int .i64 now,U,.pointer (some ⟨w.heap.size, 0, none⟩),.pointer (some ⟨qw1.heap.size, 0, none⟩),U,.pointer (some ⟨qw4.heap.size, 0, none⟩),U,U,.pointer (some ⟨qw7.heap.size, 0, none⟩),.bool false,U,U,U,U,U,U,U,U,U,U,U,U,U,U,U,U,U,U,U,U,U,U,U,U,U,U,U,U,U,U,U,U,U,U,U,U,U,U,U,U,U,U,U,U,U,U,U,U,U,U,U,U,U,U,U,U,U,U,U,U,U,U,U,U,U,U,U,U,U,U,U,U,U,U,U,U] ?_
  go_upto_region 1 with (fail)
  have hin := fun wx => specIn s.fl 0 31 wx
  by_cases c0 : 0 ≤ s.fl ∧ s.fl ≤ 31
  · rw [decide_eq_true c0] at hin
    have hf16 := fun wx => specHas s.fl 16 c0.1 hf (by unfold IsFlag; omega) wx
    have hf2 := fun wx => specHas s.fl 2 c0.1 hf (by unfold IsFlag; omega) wx
    have hf4 := fun wx => specHas s.fl 4 c0.1 hf (by unfold IsFlag; omega) wx
    cases c1 : hasF s.fl 16
    · rw [c1] at hf16
      replace c1 : Hid _ := c1
      refine vR ?_
      refine vV (.pointer (some ⟨qw4.heap.size, 4, none⟩)) ?_
      refine vD (.int .i64 s.fl) (qB8.cell 4) ?_
      refine vC (hin _) ?_
      rintro _ _ ⟨rfl, rfl⟩
      refine ⟨_, rfl, ?_⟩
      refine vV (.bool false) ?_
      refine vV (.bool false) ?_
      refine vV (.pointer (some ⟨qw4.heap.size, 4, none⟩)) ?_
      refine vD (.int .i64 s.fl) (qB8.cell 4) ?_
      refine vC (hf16 _) ?_
      rintro _ _ ⟨rfl, rfl⟩
      refine ⟨_, rfl, ?_⟩
      refine vV (.bool true) ?_
      refine vV (.bool true) ?_
      refine vV (.bool true) ?_
      refine vS ?_
      refine vS ?_
      refine vS ?_
      refine vV (.bool true) ?_
      refine vV (.bool true) ?_
      refine vS ?_
      refine vS ?_
      refine vS ?_
      refine vV (.bool true) ?_
      refine vE #[.int .u32 k0,.agg #[.int .u32 h, .int .i64 p],.agg #[.int .u32 j, .int .i64 q],.int .i64 e,.agg (sgCells s),.int .i64 room,.int .i64 now,U,.pointer (some ⟨w.heap.size, 0, none⟩),.pointer (some ⟨qw1.heap.size, 0, none⟩),U,.pointer (some ⟨qw4.heap.size, 0, none⟩),U,U,.pointer (some ⟨qw7.heap.size, 0, none⟩),.bool false,U,U,U,U,U,.pointer (some ⟨qw4.heap.size, 4, none⟩),.int .i64 s.fl,.bool true,.bool false,.bool false,.pointer (some ⟨qw4.heap.size, 4, none⟩),.int .i64 s.fl,.bool false,.bool true,.bool true,.bool true,U,U,U,.bool true,.bool true,U,U,U,.bool true,U,U,U,U,U,U,U,U,U,U,U,U,U,U,U,U,U,U,U,U,U,U,U,U,U,U,U,U,U,U,U,U,U,U,U,U,U,U,U,U,U,U,U,U,U,U,U,U,U,U,U] ?_
      go_upto_region 2 with (fail)
      refine vR ?_
      refine vV (.agg (cnCells cnZero)) ?_
      refine sB (cnCells cnZero) cn_big qB11 (cn_size _) (cn_size _) (cn_one _) ?_
      intro qw13 qt14 qB15
      clear qB11
      replace qB2 := qB2.touch qt14 (by omega)
      replace qB5 := qB5.touch qt14 (by omega)
      replace qB8 := qB8.touch qt14 (by omega)
      replace G := since_touch G qt14 (by omega)
      have qt14_s := qt14.size
      refine vV (.bool false) ?_
      refine vE #[.int .u32 k0,.agg #[.int .u32 h, .int .i64 p],.agg #[.int .u32 j, .int .i64 q],.int .i64 e,.agg (sgCells s),.int .i64 room,.int .i64 now,U,.pointer (some ⟨w.heap.size, 0, none⟩),.pointer (some ⟨qw1.heap.size, 0, none⟩),U,.pointer (some ⟨qw4.heap.size, 0, none⟩),U,U,.pointer (some ⟨qw7.heap.size, 0, none⟩),.bool false,U,U,U,U,U,.pointer (some ⟨qw4.heap.size, 4, none⟩),.int .i64 s.fl,.bool true,.bool false,.bool false,.pointer (some ⟨qw4.heap.size, 4, none⟩),.int .i64 s.fl,.bool false,.bool true,.bool true,.bool true,U,U,U,.bool true,.bool true,U,U,U,.bool true,.agg (cnCells cnZero),U,U,U,U,U,U,U,U,U,U,U,U,U,U,U,U,U,U,U,U,U,U,U,U,U,U,U,U,U,U,U,U,U,U,U,U,U,U,U,U,U,U,U,U,U,U,U,U,U,U] ?_
      go_wp2_with (fail)
      exact bodyPost_ret (v := .tuple #[.agg (cnCells cnZero), .bool false]) (results_cn2 (t := 14) (u := 15) rfl _ rfl qB15) rfl ⟨by rw [hV.out, tak_no (by unfold takOk goesOn; rw [c1.out]; simp)], G⟩
    · rw [c1] at hf16
      replace c1 : Hid _ := c1
      cases c2 : hasF s.fl 2
      · rw [c2] at hf2
        replace c2 : Hid _ := c2
        cases c3 : hasF s.fl 4
        · rw [c3] at hf4
          replace c3 : Hid _ := c3
          cases c4 : ckKnown k0 h p j q e (cok s)
          · rw [c4] at hck
            replace c4 : Hid _ := c4
            refine vR ?_
            refine vV (.pointer (some ⟨qw4.heap.size, 4, none⟩)) ?_
            refine vD (.int .i64 s.fl) (qB8.cell 4) ?_
            refine vC (hin _) ?_
            rintro _ _ ⟨rfl, rfl⟩
            refine ⟨_, rfl, ?_⟩
            refine vV (.bool false) ?_
            refine vV (.bool false) ?_
            refine vV (.pointer (some ⟨qw4.heap.size, 4, none⟩)) ?_
            refine vD (.int .i64 s.fl) (qB8.cell 4) ?_
            refine vC (hf16 _) ?_
            rintro _ _ ⟨rfl, rfl⟩
            refine ⟨_, rfl, ?_⟩
            refine vV (.bool false) ?_
            refine vV (.bool false) ?_
            refine vV (.bool false) ?_
            refine vV (.pointer (some ⟨qw4.heap.size, 4, none⟩)) ?_
            refine vD (.int .i64 s.fl) (qB8.cell 4) ?_
            refine vC (hf2 _) ?_
            rintro _ _ ⟨rfl, rfl⟩
            refine ⟨_, rfl, ?_⟩
            refine vV (.bool false) ?_
            refine vV (.bool false) ?_
            refine vV (.pointer (some ⟨qw4.heap.size, 4, none⟩)) ?_
            refine vD (.int .i64 s.fl) (qB8.cell 4) ?_
            refine vC (hf4 _) ?_
            rintro _ _ ⟨rfl, rfl⟩
            refine ⟨_, rfl, ?_⟩
            refine vV (.bool false) ?_
            refine vE #[.int .u32 k0,.agg #[.int .u32 h, .int .i64 p],.agg #[.int .u32 j, .int .i64 q],.int .i64 e,.agg (sgCells s),.int .i64 room,.int .i64 now,U,.pointer (some ⟨w.heap.size, 0, none⟩),.pointer (some ⟨qw1.heap.size, 0, none⟩),U,.pointer (some ⟨qw4.heap.size, 0, none⟩),U,U,.pointer (some ⟨qw7.heap.size, 0, none⟩),.bool false,U,U,U,U,U,.pointer (some ⟨qw4.heap.size, 4, none⟩),.int .i64 s.fl,.bool true,.bool false,.bool false,.pointer (some ⟨qw4.heap.size, 4, none⟩),.int .i64 s.fl,.bool true,.bool false,.bool false,.bool false,.pointer (some ⟨qw4.heap.size, 4, none⟩),.int .i64 s.fl,.bool false,.bool false,.bool false,.pointer (some ⟨qw4.heap.size, 4, none⟩),.int .i64 s.fl,.bool false,.bool false,U,U,U,U,U,U,U,U,U,U,U,U,U,U,U,U,U,U,U,U,U,U,U,U,U,U,U,U,U,U,U,U,U,U,U,U,U,U,U,U,U,U,U,U,U,U,U,U,U,U,U] ?_
            go_upto_region 3 with (fail)
            refine vR ?_
            refine vV (.int .u32 k0) ?_
            refine vB ad_big qB2 rfl ?_
            refine vB ad_big qB5 rfl ?_
            refine vV (.int .i64 e) ?_
            refine vV (.pointer (some ⟨qw4.heap.size, 3, none⟩)) ?_
            refine vD (.int .u32 s.ak) (qB8.cell 3) ?_
            refine vV (.int .u32 (cok s)) ?_
            refine vK (hck _) ?_
            intro qw13 qg14
            replace qB2 := qB2.since qg14
            replace qB5 := qB5.since qg14
            replace qB8 := qB8.since qg14
            replace qB11 := qB11.since qg14
            replace G := G.trans qg14
            have qg14_s := qg14.size
            refine vV (.tuple #[.int .i64 ks, .bool false]) ?_
            refine vV (.int .i64 ks) ?_
            refine vV (.bool false) ?_
            refine vV (.int .i64 ks) ?_
            refine vV (.bool false) ?_
            refine vE #[.int .u32 k0,.agg #[.int .u32 h, .int .i64 p],.agg #[.int .u32 j, .int .i64 q],.int .i64 e,.agg (sgCells s),.int .i64 room,.int .i64 now,U,.pointer (some ⟨w.heap.size, 0, none⟩),.pointer (some ⟨qw1.heap.size, 0, none⟩),U,.pointer (some ⟨qw4.heap.size, 0, none⟩),U,U,.pointer (some ⟨qw7.heap.size, 0, none⟩),.bool false,.int .i64 ks,.bool false,U,U,U,.pointer (some ⟨qw4.heap.size, 4, none⟩),.int .i64 s.fl,.bool true,.bool false,.bool false,.pointer (some ⟨qw4.heap.size, 4, none⟩),.int .i64 s.fl,.bool true,.bool false,.bool false,.bool false,.pointer (some ⟨qw4.heap.size, 4, none⟩),.int .i64 s.fl,.bool false,.bool false,.bool false,.pointer (some ⟨qw4.heap.size, 4, none⟩),.int .i64 s.fl,.bool false,.bool false,U,.tuple #[.int .i64 ks, .bool false],.int .u32 k0,.agg #[.int .u32 h, .int .i64 p],.agg #[.int .u32 j, .int .i64 q],.int .i64 e,.pointer (some ⟨qw4.heap.size, 3, none⟩),.int .u32 s.ak,.int .u32 (cok s),.tuple #[.int .i64 ks, .bool false],.int .i64 ks,.bool false,U,U,U,U,U,U,U,U,U,U,U,U,U,U,U,U,U,U,U,U,U,U,U,U,U,U,U,U,U,U,U,U,U,U,U,U,U,U,U] ?_
            go_upto_region 4 with (fail)
            refine vR ?_
            refine vV (.bool false) ?_
            refine vV (.bool true) ?_
            refine vE #[.int .u32 k0,.agg #[.int .u32 h, .int .i64 p],.agg #[.int .u32 j, .int .i64 q],.int .i64 e,.agg (sgCells s),.int .i64 room,.int .i64 now,U,.pointer (some ⟨w.heap.size, 0, none⟩),.pointer (some ⟨qw1.heap.size, 0, none⟩),U,.pointer (some ⟨qw4.heap.size, 0, none⟩),U,U,.pointer (some ⟨qw7.heap.size, 0, none⟩),.bool false,.int .i64 ks,.bool false,U,U,U,.pointer (some ⟨qw4.heap.size, 4, none⟩),.int .i64 s.fl,.bool true,.bool false,.bool false,.pointer (some ⟨qw4.heap.size, 4, none⟩),.int .i64 s.fl,.bool true,.bool false,.bool false,.bool false,.pointer (some ⟨qw4.heap.size, 4, none⟩),.int .i64 s.fl,.bool false,.bool false,.bool false,.pointer (some ⟨qw4.heap.size, 4, none⟩),.int .i64 s.fl,.bool false,.bool false,U,.tuple #[.int .i64 ks, .bool false],.int .u32 k0,.agg #[.int .u32 h, .int .i64 p],.agg #[.int .u32 j, .int .i64 q],.int .i64 e,.pointer (some ⟨qw4.heap.size, 3, none⟩),.int .u32 s.ak,.int .u32 (cok s),.tuple #[.int .i64 ks, .bool false],.int .i64 ks,.bool false,.bool false,.bool true,U,U,U,U,U,U,U,U,U,U,U,U,U,U,U,U,U,U,U,U,U,U,U,U,U,U,U,U,U,U,U,U,U,U,U,U,U] ?_
            go_upto_region 5 with (fail)
            refine vR ?_
            refine vV (.agg (cnCells cnZero)) ?_
            refine sB (cnCells cnZero) cn_big qB11 (cn_size _) (cn_size _) (cn_one _) ?_
            intro qw15 qt16 qB17
            clear qB11
            replace qB2 := qB2.touch qt16 (by omega)
            replace qB5 := qB5.touch qt16 (by omega)
            replace qB8 := qB8.touch qt16 (by omega)
            replace G := since_touch G qt16 (by omega)
            have qt16_s := qt16.size
            refine vV (.bool false) ?_
            refine vE #[.int .u32 k0,.agg #[.int .u32 h, .int .i64 p],.agg #[.int .u32 j, .int .i64 q],.int .i64 e,.agg (sgCells s),.int .i64 room,.int .i64 now,U,.pointer (some ⟨w.heap.size, 0, none⟩),.pointer (some ⟨qw1.heap.size, 0, none⟩),U,.pointer (some ⟨qw4.heap.size, 0, none⟩),U,U,.pointer (some ⟨qw7.heap.size, 0, none⟩),.bool false,.int .i64 ks,.bool false,U,U,U,.pointer (some ⟨qw4.heap.size, 4, none⟩),.int .i64 s.fl,.bool true,.bool false,.bool false,.pointer (some ⟨qw4.heap.size, 4, none⟩),.int .i64 s.fl,.bool true,.bool false,.bool false,.bool false,.pointer (some ⟨qw4.heap.size, 4, none⟩),.int .i64 s.fl,.bool false,.bool false,.bool false,.pointer (some ⟨qw4.heap.size, 4, none⟩),.int .i64 s.fl,.bool false,.bool false,U,.tuple #[.int .i64 ks, .bool false],.int .u32 k0,.agg #[.int .u32 h, .int .i64 p],.agg #[.int .u32 j, .int .i64 q],.int .i64 e,.pointer (some ⟨qw4.heap.size, 3, none⟩),.int .u32 s.ak,.int .u32 (cok s),.tuple #[.int .i64 ks, .bool false],.int .i64 ks,.bool false,.bool false,.bool true,.agg (cnCells cnZero),U,U,U,U,U,U,U,U,U,U,U,U,U,U,U,U,U,U,U,U,U,U,U,U,U,U,U,U,U,U,U,U,U,U,U,U] ?_
            go_wp2_with (fail)
            exact bodyPost_ret (v := .tuple #[.agg (cnCells cnZero), .bool false]) (results_cn2 (t := 14) (u := 15) rfl _ rfl qB17) rfl ⟨by rw [hV.out, tak_no (by unfold takOk; rw [c4.out]; simp)], G⟩
          · rw [c4] at hck
            replace c4 : Hid _ := c4
            have hh := fun wx => specHear (askS s) (cok s) room now (cok_word s) (askS_word s) wx
            unfold hearV cnVal sgVal at hh
            obtain ⟨C0, hC0⟩ : ∃ C, Hid (C = hearC (askS s) (cok s) room now) := ⟨_, rfl⟩
            rw [← hC0.out] at hh
            generalize synSg C0 [] = S0 at hh
            by_cases c5 : hearOk (askS s) room now
            · simp only [if_pos c5] at hh
              refine vR ?_
              refine vV (.pointer (some ⟨qw4.heap.size, 4, none⟩)) ?_
              refine vD (.int .i64 s.fl) (qB8.cell 4) ?_
              refine vC (hin _) ?_
              rintro _ _ ⟨rfl, rfl⟩
              refine ⟨_, rfl, ?_⟩
              refine vV (.bool false) ?_
              refine vV (.bool false) ?_
              refine vV (.pointer (some ⟨qw4.heap.size, 4, none⟩)) ?_
              refine vD (.int .i64 s.fl) (qB8.cell 4) ?_
              refine vC (hf16 _) ?_
              rintro _ _ ⟨rfl, rfl⟩
              refine ⟨_, rfl, ?_⟩
              refine vV (.bool false) ?_
              refine vV (.bool false) ?_
              refine vV (.bool false) ?_
              refine vV (.pointer (some ⟨qw4.heap.size, 4, none⟩)) ?_
              refine vD (.int .i64 s.fl) (qB8.cell 4) ?_
              refine vC (hf2 _) ?_
              rintro _ _ ⟨rfl, rfl⟩
              refine ⟨_, rfl, ?_⟩
              refine vV (.bool false) ?_
              refine vV (.bool false) ?_
              refine vV (.pointer (some ⟨qw4.heap.size, 4, none⟩)) ?_
              refine vD (.int .i64 s.fl) (qB8.cell 4) ?_
              refine vC (hf4 _) ?_
              rintro _ _ ⟨rfl, rfl⟩
              refine ⟨_, rfl, ?_⟩
              refine vV (.bool false) ?_
              refine vE #[.int .u32 k0,.agg #[.int .u32 h, .int .i64 p],.agg #[.int .u32 j, .int .i64 q],.int .i64 e,.agg (sgCells s),.int .i64 room,.int .i64 now,U,.pointer (some ⟨w.heap.size, 0, none⟩),.pointer (some ⟨qw1.heap.size, 0, none⟩),U,.pointer (some ⟨qw4.heap.size, 0, none⟩),U,U,.pointer (some ⟨qw7.heap.size, 0, none⟩),.bool false,U,U,U,U,U,.pointer (some ⟨qw4.heap.size, 4, none⟩),.int .i64 s.fl,.bool true,.bool false,.bool false,.pointer (some ⟨qw4.heap.size, 4, none⟩),.int .i64 s.fl,.bool true,.bool false,.bool false,.bool false,.pointer (some ⟨qw4.heap.size, 4, none⟩),.int .i64 s.fl,.bool false,.bool false,.bool false,.pointer (some ⟨qw4.heap.size, 4, none⟩),.int .i64 s.fl,.bool false,.bool false,U,U,U,U,U,U,U,U,U,U,U,U,U,U,U,U,U,U,U,U,U,U,U,U,U,U,U,U,U,U,U,U,U,U,U,U,U,U,U,U,U,U,U,U,U,U,U,U,U,U,U] ?_
              go_upto_region 3 with (fail)
              refine vR ?_
              refine vV (.int .u32 k0) ?_
              refine vB ad_big qB2 rfl ?_
              refine vB ad_big qB5 rfl ?_
              refine vV (.int .i64 e) ?_
              refine vV (.pointer (some ⟨qw4.heap.size, 3, none⟩)) ?_
              refine vD (.int .u32 s.ak) (qB8.cell 3) ?_
              refine vV (.int .u32 (cok s)) ?_
              refine vK (hck _) ?_
              intro qw13 qg14
              replace qB2 := qB2.since qg14
              replace qB5 := qB5.since qg14
              replace qB8 := qB8.since qg14
              replace qB11 := qB11.since qg14
              replace G := G.trans qg14
              have qg14_s := qg14.size
              refine vV (.tuple #[.int .i64 ks, .bool true]) ?_
              refine vV (.int .i64 ks) ?_
              refine vV (.bool true) ?_
              refine vV (.int .i64 ks) ?_
              refine vV (.bool true) ?_
              refine vE #[.int .u32 k0,.agg #[.int .u32 h, .int .i64 p],.agg #[.int .u32 j, .int .i64 q],.int .i64 e,.agg (sgCells s),.int .i64 room,.int .i64 now,U,.pointer (some ⟨w.heap.size, 0, none⟩),.pointer (some ⟨qw1.heap.size, 0, none⟩),U,.pointer (some ⟨qw4.heap.size, 0, none⟩),U,U,.pointer (some ⟨qw7.heap.size, 0, none⟩),.bool false,.int .i64 ks,.bool true,U,U,U,.pointer (some ⟨qw4.heap.size, 4, none⟩),.int .i64 s.fl,.bool true,.bool false,.bool false,.pointer (some ⟨qw4.heap.size, 4, none⟩),.int .i64 s.fl,.bool true,.bool false,.bool false,.bool false,.pointer (some ⟨qw4.heap.size, 4, none⟩),.int .i64 s.fl,.bool false,.bool false,.bool false,.pointer (some ⟨qw4.heap.size, 4, none⟩),.int .i64 s.fl,.bool false,.bool false,U,.tuple #[.int .i64 ks, .bool true],.int .u32 k0,.agg #[.int .u32 h, .int .i64 p],.agg #[.int .u32 j, .int .i64 q],.int .i64 e,.pointer (some ⟨qw4.heap.size, 3, none⟩),.int .u32 s.ak,.int .u32 (cok s),.tuple #[.int .i64 ks, .bool true],.int .i64 ks,.bool true,U,U,U,U,U,U,U,U,U,U,U,U,U,U,U,U,U,U,U,U,U,U,U,U,U,U,U,U,U,U,U,U,U,U,U,U,U,U,U] ?_
              go_upto_region 4 with (fail)
              refine vR ?_
              refine vV (.bool true) ?_
              refine vV (.bool false) ?_
              refine vE #[.int .u32 k0,.agg #[.int .u32 h, .int .i64 p],.agg #[.int .u32 j, .int .i64 q],.int .i64 e,.agg (sgCells s),.int .i64 room,.int .i64 now,U,.pointer (some ⟨w.heap.size, 0, none⟩),.pointer (some ⟨qw1.heap.size, 0, none⟩),U,.pointer (some ⟨qw4.heap.size, 0, none⟩),U,U,.pointer (some ⟨qw7.heap.size, 0, none⟩),.bool false,.int .i64 ks,.bool true,U,U,U,.pointer (some ⟨qw4.heap.size, 4, none⟩),.int .i64 s.fl,.bool true,.bool false,.bool false,.pointer (some ⟨qw4.heap.size, 4, none⟩),.int .i64 s.fl,.bool true,.bool false,.bool false,.bool false,.pointer (some ⟨qw4.heap.size, 4, none⟩),.int .i64 s.fl,.bool false,.bool false,.bool false,.pointer (some ⟨qw4.heap.size, 4, none⟩),.int .i64 s.fl,.bool false,.bool false,U,.tuple #[.int .i64 ks, .bool true],.int .u32 k0,.agg #[.int .u32 h, .int .i64 p],.agg #[.int .u32 j, .int .i64 q],.int .i64 e,.pointer (some ⟨qw4.heap.size, 3, none⟩),.int .u32 s.ak,.int .u32 (cok s),.tuple #[.int .i64 ks, .bool true],.int .i64 ks,.bool true,.bool true,.bool false,U,U,U,U,U,U,U,U,U,U,U,U,U,U,U,U,U,U,U,U,U,U,U,U,U,U,U,U,U,U,U,U,U,U,U,U,U] ?_
              go_upto_region 6 with (fail)
              refine vR ?_
              refine vV (.pointer (some ⟨qw4.heap.size, 2, none⟩)) ?_
              refine vD (.int .u32 s.sq) (qB8.cell 2) ?_
              refine vV (.int .u32 ((s.sq - 1) % 4294967296)) ?_
              refine vV (.pointer (some ⟨qw4.heap.size, 5, none⟩)) ?_
              refine vD (.int .i64 s.wn) (qB8.cell 5) ?_
              refine vV (.agg (sgCells (askS s))) ?_
              refine vV (.pointer (some ⟨qw4.heap.size, 3, none⟩)) ?_
              refine vD (.int .u32 s.ak) (qB8.cell 3) ?_
              refine vV (.int .u32 (cok s)) ?_
              refine vV (.int .i64 room) ?_
              refine vV (.int .i64 now) ?_
              refine vK (hh _) ?_
              intro qw15 qg16
              replace qB2 := qB2.since qg16
              replace qB5 := qB5.since qg16
              replace qB8 := qB8.since qg16
              replace qB11 := qB11.since qg16
              replace G := G.trans qg16
              have qg16_s := qg16.size
              refine vV (.tuple #[.agg (cnCells C0), .agg (sgCells S0), .bool true]) ?_
              refine vV (.agg (cnCells C0)) ?_
              refine vV (.agg (sgCells S0)) ?_
              refine vV (.bool true) ?_
              refine vW (qw15.alloc (.cells (cnCells cnZero) 46)) (.pointer (some ⟨qw15.heap.size, 0, none⟩)) ?_
              have qB18 := Blk.new qw15 (cnCells cnZero) 46
              have qg19 := (Since.refl qw15).alloc (.cells (cnCells cnZero) 46)
              replace qB2 := qB2.since qg19
              replace qB5 := qB5.since qg19
              replace qB8 := qB8.since qg19
              replace qB11 := qB11.since qg19
              replace G := G.trans qg19
              generalize qw15.alloc (.cells (cnCells cnZero) 46) = qw17 at qB2 qB5 qB8 qB11 G qB18 qg19 ⊢
              have qB18_l := qB18.lt
              have qg19_s := qg19.size
              refine vW (qw17.alloc (.cells (sgCells sgZero) 28)) (.pointer (some ⟨qw17.heap.size, 0, none⟩)) ?_
              have qB21 := Blk.new qw17 (sgCells sgZero) 28
              have qg22 := (Since.refl qw17).alloc (.cells (sgCells sgZero) 28)
              replace qB2 := qB2.since qg22
              replace qB5 := qB5.since qg22
              replace qB8 := qB8.since qg22
              replace qB11 := qB11.since qg22
              replace qB18 := qB18.since qg22
              replace G := G.trans qg22
              generalize qw17.alloc (.cells (sgCells sgZero) 28) = qw20 at qB2 qB5 qB8 qB11 qB18 G qB21 qg22 ⊢
              have qB21_l := qB21.lt
              have qg22_s := qg22.size
              refine sB (cnCells C0) cn_big qB18 (cn_size _) (cn_size _) (cn_one _) ?_
              intro qw23 qt24 qB25
              clear qB18
              replace qB2 := qB2.touch qt24 (by omega)
              replace qB5 := qB5.touch qt24 (by omega)
              replace qB8 := qB8.touch qt24 (by omega)
              replace qB11 := qB11.touch qt24 (by omega)
              replace qB21 := qB21.touch qt24 (by omega)
              replace G := since_touch G qt24 (by omega)
              have qt24_s := qt24.size
              refine sB (sgCells S0) seg_big qB21 rfl rfl (seg_one _ _ _ _ _ _ _ _) ?_
              intro qw26 qt27 qB28
              clear qB21
              replace qB2 := qB2.touch qt27 (by omega)
              replace qB5 := qB5.touch qt27 (by omega)
              replace qB8 := qB8.touch qt27 (by omega)
              replace qB11 := qB11.touch qt27 (by omega)
              replace qB25 := qB25.touch qt27 (by omega)
              replace G := since_touch G qt27 (by omega)
              have qt27_s := qt27.size
              refine vV (.bool true) ?_
              refine vE #[.int .u32 k0,.agg #[.int .u32 h, .int .i64 p],.agg #[.int .u32 j, .int .i64 q],.int .i64 e,.agg (sgCells s),.int .i64 room,.int .i64 now,U,.pointer (some ⟨w.heap.size, 0, none⟩),.pointer (some ⟨qw1.heap.size, 0, none⟩),U,.pointer (some ⟨qw4.heap.size, 0, none⟩),U,U,.pointer (some ⟨qw7.heap.size, 0, none⟩),.bool false,.int .i64 ks,.bool true,.pointer (some ⟨qw15.heap.size, 0, none⟩),.pointer (some ⟨qw17.heap.size, 0, none⟩),.bool true,.pointer (some ⟨qw4.heap.size, 4, none⟩),.int .i64 s.fl,.bool true,.bool false,.bool false,.pointer (some ⟨qw4.heap.size, 4, none⟩),.int .i64 s.fl,.bool true,.bool false,.bool false,.bool false,.pointer (some ⟨qw4.heap.size, 4, none⟩),.int .i64 s.fl,.bool false,.bool false,.bool false,.pointer (some ⟨qw4.heap.size, 4, none⟩),.int .i64 s.fl,.bool false,.bool false,U,.tuple #[.int .i64 ks, .bool true],.int .u32 k0,.agg #[.int .u32 h, .int .i64 p],.agg #[.int .u32 j, .int .i64 q],.int .i64 e,.pointer (some ⟨qw4.heap.size, 3, none⟩),.int .u32 s.ak,.int .u32 (cok s),.tuple #[.int .i64 ks, .bool true],.int .i64 ks,.bool true,.bool true,.bool false,U,.tuple #[.agg (cnCells C0), .agg (sgCells S0), .bool true],.pointer (some ⟨qw4.heap.size, 2, none⟩),.int .u32 s.sq,.int .u32 ((s.sq - 1) % 4294967296),.pointer (some ⟨qw4.heap.size, 5, none⟩),.int .i64 s.wn,.agg (sgCells (askS s)),.pointer (some ⟨qw4.heap.size, 3, none⟩),.int .u32 s.ak,.int .u32 (cok s),.int .i64 room,.int .i64 now,.tuple #[.agg (cnCells C0), .agg (sgCells S0), .bool true],.agg (cnCells C0),.agg (sgCells S0),.bool true,U,U,U,U,U,U,U,U,U,U,U,U,U,U,U,U,U,U,U,U] ?_
              go_upto_region 7 with (fail)
              refine vR ?_
              refine vV (.bool true) ?_
              refine vV (.bool false) ?_
              refine vE #[.int .u32 k0,.agg #[.int .u32 h, .int .i64 p],.agg #[.int .u32 j, .int .i64 q],.int .i64 e,.agg (sgCells s),.int .i64 room,.int .i64 now,U,.pointer (some ⟨w.heap.size, 0, none⟩),.pointer (some ⟨qw1.heap.size, 0, none⟩),U,.pointer (some ⟨qw4.heap.size, 0, none⟩),U,U,.pointer (some ⟨qw7.heap.size, 0, none⟩),.bool false,.int .i64 ks,.bool true,.pointer (some ⟨qw15.heap.size, 0, none⟩),.pointer (some ⟨qw17.heap.size, 0, none⟩),.bool true,.pointer (some ⟨qw4.heap.size, 4, none⟩),.int .i64 s.fl,.bool true,.bool false,.bool false,.pointer (some ⟨qw4.heap.size, 4, none⟩),.int .i64 s.fl,.bool true,.bool false,.bool false,.bool false,.pointer (some ⟨qw4.heap.size, 4, none⟩),.int .i64 s.fl,.bool false,.bool false,.bool false,.pointer (some ⟨qw4.heap.size, 4, none⟩),.int .i64 s.fl,.bool false,.bool false,U,.tuple #[.int .i64 ks, .bool true],.int .u32 k0,.agg #[.int .u32 h, .int .i64 p],.agg #[.int .u32 j, .int .i64 q],.int .i64 e,.pointer (some ⟨qw4.heap.size, 3, none⟩),.int .u32 s.ak,.int .u32 (cok s),.tuple #[.int .i64 ks, .bool true],.int .i64 ks,.bool true,.bool true,.bool false,U,.tuple #[.agg (cnCells C0), .agg (sgCells S0), .bool true],.pointer (some ⟨qw4.heap.size, 2, none⟩),.int .u32 s.sq,.int .u32 ((s.sq - 1) % 4294967296),.pointer (some ⟨qw4.heap.size, 5, none⟩),.int .i64 s.wn,.agg (sgCells (askS s)),.pointer (some ⟨qw4.heap.size, 3, none⟩),.int .u32 s.ak,.int .u32 (cok s),.int .i64 room,.int .i64 now,.tuple #[.agg (cnCells C0), .agg (sgCells S0), .bool true],.agg (cnCells C0),.agg (sgCells S0),.bool true,.bool true,.bool false,U,U,U,U,U,U,U,U,U,U,U,U,U,U,U,U,U,U] ?_
              go_upto_region 9 with (fail)
              refine vR ?_
              refine vV (.pointer (some ⟨qw15.heap.size, 0, none⟩)) ?_
              refine sC (cnCells { C0 with st := 3 }) qB25 0 (.int .i64 3) (cn_size _) ?_
              intro qw29 qt30 qB31
              clear qB25
              replace qB2 := qB2.touch qt30 (by omega)
              replace qB5 := qB5.touch qt30 (by omega)
              replace qB8 := qB8.touch qt30 (by omega)
              replace qB11 := qB11.touch qt30 (by omega)
              replace qB28 := qB28.touch qt30 (by omega)
              replace G := since_touch G qt30 (by omega)
              have qt30_s := qt30.size
              refine vE #[.int .u32 k0,.agg #[.int .u32 h, .int .i64 p],.agg #[.int .u32 j, .int .i64 q],.int .i64 e,.agg (sgCells s),.int .i64 room,.int .i64 now,U,.pointer (some ⟨w.heap.size, 0, none⟩),.pointer (some ⟨qw1.heap.size, 0, none⟩),U,.pointer (some ⟨qw4.heap.size, 0, none⟩),U,U,.pointer (some ⟨qw7.heap.size, 0, none⟩),.bool false,.int .i64 ks,.bool true,.pointer (some ⟨qw15.heap.size, 0, none⟩),.pointer (some ⟨qw17.heap.size, 0, none⟩),.bool true,.pointer (some ⟨qw4.heap.size, 4, none⟩),.int .i64 s.fl,.bool true,.bool false,.bool false,.pointer (some ⟨qw4.heap.size, 4, none⟩),.int .i64 s.fl,.bool true,.bool false,.bool false,.bool false,.pointer (some ⟨qw4.heap.size, 4, none⟩),.int .i64 s.fl,.bool false,.bool false,.bool false,.pointer (some ⟨qw4.heap.size, 4, none⟩),.int .i64 s.fl,.bool false,.bool false,U,.tuple #[.int .i64 ks, .bool true],.int .u32 k0,.agg #[.int .u32 h, .int .i64 p],.agg #[.int .u32 j, .int .i64 q],.int .i64 e,.pointer (some ⟨qw4.heap.size, 3, none⟩),.int .u32 s.ak,.int .u32 (cok s),.tuple #[.int .i64 ks, .bool true],.int .i64 ks,.bool true,.bool true,.bool false,U,.tuple #[.agg (cnCells C0), .agg (sgCells S0), .bool true],.pointer (some ⟨qw4.heap.size, 2, none⟩),.int .u32 s.sq,.int .u32 ((s.sq - 1) % 4294967296),.pointer (some ⟨qw4.heap.size, 5, none⟩),.int .i64 s.wn,.agg (sgCells (askS s)),.pointer (some ⟨qw4.heap.size, 3, none⟩),.int .u32 s.ak,.int .u32 (cok s),.int .i64 room,.int .i64 now,.tuple #[.agg (cnCells C0), .agg (sgCells S0), .bool true],.agg (cnCells C0),.agg (sgCells S0),.bool true,.bool true,.bool false,U,.pointer (some ⟨qw15.heap.size, 0, none⟩),U,U,U,U,U,U,U,U,U,U,U,U,U,U,U,U] ?_
              go_upto_region 10 with (fail)
              refine vR ?_
              refine vV (.pointer (some ⟨qw4.heap.size, 3, none⟩)) ?_
              refine vD (.int .u32 s.ak) (qB8.cell 3) ?_
              refine vV (.pointer (some ⟨qw15.heap.size, 2, none⟩)) ?_
              refine sC (cnCells { C0 with st := 3, una := s.ak }) qB31 2 (.int .u32 s.ak) (cn_size _) ?_
              intro qw32 qt33 qB34
              clear qB31
              replace qB2 := qB2.touch qt33 (by omega)
              replace qB5 := qB5.touch qt33 (by omega)
              replace qB8 := qB8.touch qt33 (by omega)
              replace qB11 := qB11.touch qt33 (by omega)
              replace qB28 := qB28.touch qt33 (by omega)
              replace G := since_touch G qt33 (by omega)
              have qt33_s := qt33.size
              refine vE #[.int .u32 k0,.agg #[.int .u32 h, .int .i64 p],.agg #[.int .u32 j, .int .i64 q],.int .i64 e,.agg (sgCells s),.int .i64 room,.int .i64 now,U,.pointer (some ⟨w.heap.size, 0, none⟩),.pointer (some ⟨qw1.heap.size, 0, none⟩),U,.pointer (some ⟨qw4.heap.size, 0, none⟩),U,U,.pointer (some ⟨qw7.heap.size, 0, none⟩),.bool false,.int .i64 ks,.bool true,.pointer (some ⟨qw15.heap.size, 0, none⟩),.pointer (some ⟨qw17.heap.size, 0, none⟩),.bool true,.pointer (some ⟨qw4.heap.size, 4, none⟩),.int .i64 s.fl,.bool true,.bool false,.bool false,.pointer (some ⟨qw4.heap.size, 4, none⟩),.int .i64 s.fl,.bool true,.bool false,.bool false,.bool false,.pointer (some ⟨qw4.heap.size, 4, none⟩),.int .i64 s.fl,.bool false,.bool false,.bool false,.pointer (some ⟨qw4.heap.size, 4, none⟩),.int .i64 s.fl,.bool false,.bool false,U,.tuple #[.int .i64 ks, .bool true],.int .u32 k0,.agg #[.int .u32 h, .int .i64 p],.agg #[.int .u32 j, .int .i64 q],.int .i64 e,.pointer (some ⟨qw4.heap.size, 3, none⟩),.int .u32 s.ak,.int .u32 (cok s),.tuple #[.int .i64 ks, .bool true],.int .i64 ks,.bool true,.bool true,.bool false,U,.tuple #[.agg (cnCells C0), .agg (sgCells S0), .bool true],.pointer (some ⟨qw4.heap.size, 2, none⟩),.int .u32 s.sq,.int .u32 ((s.sq - 1) % 4294967296),.pointer (some ⟨qw4.heap.size, 5, none⟩),.int .i64 s.wn,.agg (sgCells (askS s)),.pointer (some ⟨qw4.heap.size, 3, none⟩),.int .u32 s.ak,.int .u32 (cok s),.int .i64 room,.int .i64 now,.tuple #[.agg (cnCells C0), .agg (sgCells S0), .bool true],.agg (cnCells C0),.agg (sgCells S0),.bool true,.bool true,.bool false,U,.pointer (some ⟨qw15.heap.size, 0, none⟩),.pointer (some ⟨qw4.heap.size, 3, none⟩),.int .u32 s.ak,.pointer (some ⟨qw15.heap.size, 2, none⟩),U,U,U,U,U,U,U,U,U,U,U,U,U] ?_
              go_upto_region 11 with (fail)
              refine vR ?_
              refine vV (.pointer (some ⟨qw4.heap.size, 3, none⟩)) ?_
              refine vD (.int .u32 s.ak) (qB8.cell 3) ?_
              refine vV (.pointer (some ⟨qw15.heap.size, 8, none⟩)) ?_
              refine vV (.pointer (some ⟨qw15.heap.size, 8, none⟩)) ?_
              refine sC (cnCells { C0 with st := 3, una := s.ak, oF := s.ak }) qB34 8 (.int .u32 s.ak) (cn_size _) ?_
              intro qw35 qt36 qB37
              clear qB34
              replace qB2 := qB2.touch qt36 (by omega)
              replace qB5 := qB5.touch qt36 (by omega)
              replace qB8 := qB8.touch qt36 (by omega)
              replace qB11 := qB11.touch qt36 (by omega)
              replace qB28 := qB28.touch qt36 (by omega)
              replace G := since_touch G qt36 (by omega)
              have qt36_s := qt36.size
              refine vE #[.int .u32 k0,.agg #[.int .u32 h, .int .i64 p],.agg #[.int .u32 j, .int .i64 q],.int .i64 e,.agg (sgCells s),.int .i64 room,.int .i64 now,U,.pointer (some ⟨w.heap.size, 0, none⟩),.pointer (some ⟨qw1.heap.size, 0, none⟩),U,.pointer (some ⟨qw4.heap.size, 0, none⟩),U,U,.pointer (some ⟨qw7.heap.size, 0, none⟩),.bool false,.int .i64 ks,.bool true,.pointer (some ⟨qw15.heap.size, 0, none⟩),.pointer (some ⟨qw17.heap.size, 0, none⟩),.bool true,.pointer (some ⟨qw4.heap.size, 4, none⟩),.int .i64 s.fl,.bool true,.bool false,.bool false,.pointer (some ⟨qw4.heap.size, 4, none⟩),.int .i64 s.fl,.bool true,.bool false,.bool false,.bool false,.pointer (some ⟨qw4.heap.size, 4, none⟩),.int .i64 s.fl,.bool false,.bool false,.bool false,.pointer (some ⟨qw4.heap.size, 4, none⟩),.int .i64 s.fl,.bool false,.bool false,U,.tuple #[.int .i64 ks, .bool true],.int .u32 k0,.agg #[.int .u32 h, .int .i64 p],.agg #[.int .u32 j, .int .i64 q],.int .i64 e,.pointer (some ⟨qw4.heap.size, 3, none⟩),.int .u32 s.ak,.int .u32 (cok s),.tuple #[.int .i64 ks, .bool true],.int .i64 ks,.bool true,.bool true,.bool false,U,.tuple #[.agg (cnCells C0), .agg (sgCells S0), .bool true],.pointer (some ⟨qw4.heap.size, 2, none⟩),.int .u32 s.sq,.int .u32 ((s.sq - 1) % 4294967296),.pointer (some ⟨qw4.heap.size, 5, none⟩),.int .i64 s.wn,.agg (sgCells (askS s)),.pointer (some ⟨qw4.heap.size, 3, none⟩),.int .u32 s.ak,.int .u32 (cok s),.int .i64 room,.int .i64 now,.tuple #[.agg (cnCells C0), .agg (sgCells S0), .bool true],.agg (cnCells C0),.agg (sgCells S0),.bool true,.bool true,.bool false,U,.pointer (some ⟨qw15.heap.size, 0, none⟩),.pointer (some ⟨qw4.heap.size, 3, none⟩),.int .u32 s.ak,.pointer (some ⟨qw15.heap.size, 2, none⟩),.pointer (some ⟨qw4.heap.size, 3, none⟩),.int .u32 s.ak,.pointer (some ⟨qw15.heap.size, 8, none⟩),.pointer (some ⟨qw15.heap.size, 8, none⟩),U,U,U,U,U,U,U,U,U] ?_
              go_upto_region 12 with (fail)
              refine vR ?_
              refine vV (.pointer (some ⟨qw4.heap.size, 3, none⟩)) ?_
              refine vD (.int .u32 s.ak) (qB8.cell 3) ?_
              refine vV (.pointer (some ⟨qw15.heap.size, 3, none⟩)) ?_
              refine sC (cnCells { C0 with st := 3, una := s.ak, oF := s.ak, nxt := s.ak }) qB37 3 (.int .u32 s.ak) (cn_size _) ?_
              intro qw38 qt39 qB40
              clear qB37
              replace qB2 := qB2.touch qt39 (by omega)
              replace qB5 := qB5.touch qt39 (by omega)
              replace qB8 := qB8.touch qt39 (by omega)
              replace qB11 := qB11.touch qt39 (by omega)
              replace qB28 := qB28.touch qt39 (by omega)
              replace G := since_touch G qt39 (by omega)
              have qt39_s := qt39.size
              refine vE #[.int .u32 k0,.agg #[.int .u32 h, .int .i64 p],.agg #[.int .u32 j, .int .i64 q],.int .i64 e,.agg (sgCells s),.int .i64 room,.int .i64 now,U,.pointer (some ⟨w.heap.size, 0, none⟩),.pointer (some ⟨qw1.heap.size, 0, none⟩),U,.pointer (some ⟨qw4.heap.size, 0, none⟩),U,U,.pointer (some ⟨qw7.heap.size, 0, none⟩),.bool false,.int .i64 ks,.bool true,.pointer (some ⟨qw15.heap.size, 0, none⟩),.pointer (some ⟨qw17.heap.size, 0, none⟩),.bool true,.pointer (some ⟨qw4.heap.size, 4, none⟩),.int .i64 s.fl,.bool true,.bool false,.bool false,.pointer (some ⟨qw4.heap.size, 4, none⟩),.int .i64 s.fl,.bool true,.bool false,.bool false,.bool false,.pointer (some ⟨qw4.heap.size, 4, none⟩),.int .i64 s.fl,.bool false,.bool false,.bool false,.pointer (some ⟨qw4.heap.size, 4, none⟩),.int .i64 s.fl,.bool false,.bool false,U,.tuple #[.int .i64 ks, .bool true],.int .u32 k0,.agg #[.int .u32 h, .int .i64 p],.agg #[.int .u32 j, .int .i64 q],.int .i64 e,.pointer (some ⟨qw4.heap.size, 3, none⟩),.int .u32 s.ak,.int .u32 (cok s),.tuple #[.int .i64 ks, .bool true],.int .i64 ks,.bool true,.bool true,.bool false,U,.tuple #[.agg (cnCells C0), .agg (sgCells S0), .bool true],.pointer (some ⟨qw4.heap.size, 2, none⟩),.int .u32 s.sq,.int .u32 ((s.sq - 1) % 4294967296),.pointer (some ⟨qw4.heap.size, 5, none⟩),.int .i64 s.wn,.agg (sgCells (askS s)),.pointer (some ⟨qw4.heap.size, 3, none⟩),.int .u32 s.ak,.int .u32 (cok s),.int .i64 room,.int .i64 now,.tuple #[.agg (cnCells C0), .agg (sgCells S0), .bool true],.agg (cnCells C0),.agg (sgCells S0),.bool true,.bool true,.bool false,U,.pointer (some ⟨qw15.heap.size, 0, none⟩),.pointer (some ⟨qw4.heap.size, 3, none⟩),.int .u32 s.ak,.pointer (some ⟨qw15.heap.size, 2, none⟩),.pointer (some ⟨qw4.heap.size, 3, none⟩),.int .u32 s.ak,.pointer (some ⟨qw15.heap.size, 8, none⟩),.pointer (some ⟨qw15.heap.size, 8, none⟩),.pointer (some ⟨qw4.heap.size, 3, none⟩),.int .u32 s.ak,.pointer (some ⟨qw15.heap.size, 3, none⟩),U,U,U,U,U,U] ?_
              go_upto_region 13 with (fail)
              refine vR ?_
              refine vV (.pointer (some ⟨qw4.heap.size, 3, none⟩)) ?_
              refine vD (.int .u32 s.ak) (qB8.cell 3) ?_
              refine vV (.pointer (some ⟨qw15.heap.size, 4, none⟩)) ?_
              refine sC (cnCells { C0 with st := 3, una := s.ak, oF := s.ak, nxt := s.ak, mx := s.ak }) qB40 4 (.int .u32 s.ak) (cn_size _) ?_
              intro qw41 qt42 qB43
              clear qB40
              replace qB2 := qB2.touch qt42 (by omega)
              replace qB5 := qB5.touch qt42 (by omega)
              replace qB8 := qB8.touch qt42 (by omega)
              replace qB11 := qB11.touch qt42 (by omega)
              replace qB28 := qB28.touch qt42 (by omega)
              replace G := since_touch G qt42 (by omega)
              have qt42_s := qt42.size
              refine vE #[.int .u32 k0,.agg #[.int .u32 h, .int .i64 p],.agg #[.int .u32 j, .int .i64 q],.int .i64 e,.agg (sgCells s),.int .i64 room,.int .i64 now,U,.pointer (some ⟨w.heap.size, 0, none⟩),.pointer (some ⟨qw1.heap.size, 0, none⟩),U,.pointer (some ⟨qw4.heap.size, 0, none⟩),U,U,.pointer (some ⟨qw7.heap.size, 0, none⟩),.bool false,.int .i64 ks,.bool true,.pointer (some ⟨qw15.heap.size, 0, none⟩),.pointer (some ⟨qw17.heap.size, 0, none⟩),.bool true,.pointer (some ⟨qw4.heap.size, 4, none⟩),.int .i64 s.fl,.bool true,.bool false,.bool false,.pointer (some ⟨qw4.heap.size, 4, none⟩),.int .i64 s.fl,.bool true,.bool false,.bool false,.bool false,.pointer (some ⟨qw4.heap.size, 4, none⟩),.int .i64 s.fl,.bool false,.bool false,.bool false,.pointer (some ⟨qw4.heap.size, 4, none⟩),.int .i64 s.fl,.bool false,.bool false,U,.tuple #[.int .i64 ks, .bool true],.int .u32 k0,.agg #[.int .u32 h, .int .i64 p],.agg #[.int .u32 j, .int .i64 q],.int .i64 e,.pointer (some ⟨qw4.heap.size, 3, none⟩),.int .u32 s.ak,.int .u32 (cok s),.tuple #[.int .i64 ks, .bool true],.int .i64 ks,.bool true,.bool true,.bool false,U,.tuple #[.agg (cnCells C0), .agg (sgCells S0), .bool true],.pointer (some ⟨qw4.heap.size, 2, none⟩),.int .u32 s.sq,.int .u32 ((s.sq - 1) % 4294967296),.pointer (some ⟨qw4.heap.size, 5, none⟩),.int .i64 s.wn,.agg (sgCells (askS s)),.pointer (some ⟨qw4.heap.size, 3, none⟩),.int .u32 s.ak,.int .u32 (cok s),.int .i64 room,.int .i64 now,.tuple #[.agg (cnCells C0), .agg (sgCells S0), .bool true],.agg (cnCells C0),.agg (sgCells S0),.bool true,.bool true,.bool false,U,.pointer (some ⟨qw15.heap.size, 0, none⟩),.pointer (some ⟨qw4.heap.size, 3, none⟩),.int .u32 s.ak,.pointer (some ⟨qw15.heap.size, 2, none⟩),.pointer (some ⟨qw4.heap.size, 3, none⟩),.int .u32 s.ak,.pointer (some ⟨qw15.heap.size, 8, none⟩),.pointer (some ⟨qw15.heap.size, 8, none⟩),.pointer (some ⟨qw4.heap.size, 3, none⟩),.int .u32 s.ak,.pointer (some ⟨qw15.heap.size, 3, none⟩),.pointer (some ⟨qw4.heap.size, 3, none⟩),.int .u32 s.ak,.pointer (some ⟨qw15.heap.size, 4, none⟩),U,U,U] ?_
              go_upto_region 14 with (fail)
              refine vR ?_
              refine vV (.pointer (some ⟨qw15.heap.size, 31, none⟩)) ?_
              refine sC (cnCells { C0 with st := 3, una := s.ak, oF := s.ak, nxt := s.ak, mx := s.ak, agn := 0 }) qB43 31 (.int .i64 0) (cn_size _) ?_
              intro qw44 qt45 qB46
              clear qB43
              replace qB2 := qB2.touch qt45 (by omega)
              replace qB5 := qB5.touch qt45 (by omega)
              replace qB8 := qB8.touch qt45 (by omega)
              replace qB11 := qB11.touch qt45 (by omega)
              replace qB28 := qB28.touch qt45 (by omega)
              replace G := since_touch G qt45 (by omega)
              have qt45_s := qt45.size
              refine vE #[.int .u32 k0,.agg #[.int .u32 h, .int .i64 p],.agg #[.int .u32 j, .int .i64 q],.int .i64 e,.agg (sgCells s),.int .i64 room,.int .i64 now,U,.pointer (some ⟨w.heap.size, 0, none⟩),.pointer (some ⟨qw1.heap.size, 0, none⟩),U,.pointer (some ⟨qw4.heap.size, 0, none⟩),U,U,.pointer (some ⟨qw7.heap.size, 0, none⟩),.bool false,.int .i64 ks,.bool true,.pointer (some ⟨qw15.heap.size, 0, none⟩),.pointer (some ⟨qw17.heap.size, 0, none⟩),.bool true,.pointer (some ⟨qw4.heap.size, 4, none⟩),.int .i64 s.fl,.bool true,.bool false,.bool false,.pointer (some ⟨qw4.heap.size, 4, none⟩),.int .i64 s.fl,.bool true,.bool false,.bool false,.bool false,.pointer (some ⟨qw4.heap.size, 4, none⟩),.int .i64 s.fl,.bool false,.bool false,.bool false,.pointer (some ⟨qw4.heap.size, 4, none⟩),.int .i64 s.fl,.bool false,.bool false,U,.tuple #[.int .i64 ks, .bool true],.int .u32 k0,.agg #[.int .u32 h, .int .i64 p],.agg #[.int .u32 j, .int .i64 q],.int .i64 e,.pointer (some ⟨qw4.heap.size, 3, none⟩),.int .u32 s.ak,.int .u32 (cok s),.tuple #[.int .i64 ks, .bool true],.int .i64 ks,.bool true,.bool true,.bool false,U,.tuple #[.agg (cnCells C0), .agg (sgCells S0), .bool true],.pointer (some ⟨qw4.heap.size, 2, none⟩),.int .u32 s.sq,.int .u32 ((s.sq - 1) % 4294967296),.pointer (some ⟨qw4.heap.size, 5, none⟩),.int .i64 s.wn,.agg (sgCells (askS s)),.pointer (some ⟨qw4.heap.size, 3, none⟩),.int .u32 s.ak,.int .u32 (cok s),.int .i64 room,.int .i64 now,.tuple #[.agg (cnCells C0), .agg (sgCells S0), .bool true],.agg (cnCells C0),.agg (sgCells S0),.bool true,.bool true,.bool false,U,.pointer (some ⟨qw15.heap.size, 0, none⟩),.pointer (some ⟨qw4.heap.size, 3, none⟩),.int .u32 s.ak,.pointer (some ⟨qw15.heap.size, 2, none⟩),.pointer (some ⟨qw4.heap.size, 3, none⟩),.int .u32 s.ak,.pointer (some ⟨qw15.heap.size, 8, none⟩),.pointer (some ⟨qw15.heap.size, 8, none⟩),.pointer (some ⟨qw4.heap.size, 3, none⟩),.int .u32 s.ak,.pointer (some ⟨qw15.heap.size, 3, none⟩),.pointer (some ⟨qw4.heap.size, 3, none⟩),.int .u32 s.ak,.pointer (some ⟨qw15.heap.size, 4, none⟩),.pointer (some ⟨qw15.heap.size, 31, none⟩),U,U] ?_
              go_upto_region 15 with (fail)
              refine vR ?_
              refine vV (.pointer (some ⟨qw15.heap.size, 28, none⟩)) ?_
              refine sC (cnCells { C0 with st := 3, una := s.ak, oF := s.ak, nxt := s.ak, mx := s.ak, agn := 0, tmg := false }) qB46 28 (.bool false) (cn_size _) ?_
              intro qw47 qt48 qB49
              clear qB46
              replace qB2 := qB2.touch qt48 (by omega)
              replace qB5 := qB5.touch qt48 (by omega)
              replace qB8 := qB8.touch qt48 (by omega)
              replace qB11 := qB11.touch qt48 (by omega)
              replace qB28 := qB28.touch qt48 (by omega)
              replace G := since_touch G qt48 (by omega)
              have qt48_s := qt48.size
              refine vE #[.int .u32 k0,.agg #[.int .u32 h, .int .i64 p],.agg #[.int .u32 j, .int .i64 q],.int .i64 e,.agg (sgCells s),.int .i64 room,.int .i64 now,U,.pointer (some ⟨w.heap.size, 0, none⟩),.pointer (some ⟨qw1.heap.size, 0, none⟩),U,.pointer (some ⟨qw4.heap.size, 0, none⟩),U,U,.pointer (some ⟨qw7.heap.size, 0, none⟩),.bool false,.int .i64 ks,.bool true,.pointer (some ⟨qw15.heap.size, 0, none⟩),.pointer (some ⟨qw17.heap.size, 0, none⟩),.bool true,.pointer (some ⟨qw4.heap.size, 4, none⟩),.int .i64 s.fl,.bool true,.bool false,.bool false,.pointer (some ⟨qw4.heap.size, 4, none⟩),.int .i64 s.fl,.bool true,.bool false,.bool false,.bool false,.pointer (some ⟨qw4.heap.size, 4, none⟩),.int .i64 s.fl,.bool false,.bool false,.bool false,.pointer (some ⟨qw4.heap.size, 4, none⟩),.int .i64 s.fl,.bool false,.bool false,U,.tuple #[.int .i64 ks, .bool true],.int .u32 k0,.agg #[.int .u32 h, .int .i64 p],.agg #[.int .u32 j, .int .i64 q],.int .i64 e,.pointer (some ⟨qw4.heap.size, 3, none⟩),.int .u32 s.ak,.int .u32 (cok s),.tuple #[.int .i64 ks, .bool true],.int .i64 ks,.bool true,.bool true,.bool false,U,.tuple #[.agg (cnCells C0), .agg (sgCells S0), .bool true],.pointer (some ⟨qw4.heap.size, 2, none⟩),.int .u32 s.sq,.int .u32 ((s.sq - 1) % 4294967296),.pointer (some ⟨qw4.heap.size, 5, none⟩),.int .i64 s.wn,.agg (sgCells (askS s)),.pointer (some ⟨qw4.heap.size, 3, none⟩),.int .u32 s.ak,.int .u32 (cok s),.int .i64 room,.int .i64 now,.tuple #[.agg (cnCells C0), .agg (sgCells S0), .bool true],.agg (cnCells C0),.agg (sgCells S0),.bool true,.bool true,.bool false,U,.pointer (some ⟨qw15.heap.size, 0, none⟩),.pointer (some ⟨qw4.heap.size, 3, none⟩),.int .u32 s.ak,.pointer (some ⟨qw15.heap.size, 2, none⟩),.pointer (some ⟨qw4.heap.size, 3, none⟩),.int .u32 s.ak,.pointer (some ⟨qw15.heap.size, 8, none⟩),.pointer (some ⟨qw15.heap.size, 8, none⟩),.pointer (some ⟨qw4.heap.size, 3, none⟩),.int .u32 s.ak,.pointer (some ⟨qw15.heap.size, 3, none⟩),.pointer (some ⟨qw4.heap.size, 3, none⟩),.int .u32 s.ak,.pointer (some ⟨qw15.heap.size, 4, none⟩),.pointer (some ⟨qw15.heap.size, 31, none⟩),.pointer (some ⟨qw15.heap.size, 28, none⟩),U] ?_
              go_upto_region 16 with (fail)
              refine vR ?_
              refine vB cn_big qB49 (cn_size _) ?_
              refine sB (cnCells { C0 with st := 3, una := s.ak, oF := s.ak, nxt := s.ak, mx := s.ak, agn := 0, tmg := false }) cn_big qB11 (cn_size _) (cn_size _) (cn_one _) ?_
              intro qw50 qt51 qB52
              clear qB11
              replace qB2 := qB2.touch qt51 (by omega)
              replace qB5 := qB5.touch qt51 (by omega)
              replace qB8 := qB8.touch qt51 (by omega)
              replace qB49 := qB49.touch qt51 (by omega)
              replace qB28 := qB28.touch qt51 (by omega)
              replace G := since_touch G qt51 (by omega)
              have qt51_s := qt51.size
              refine vV (.bool true) ?_
              refine vE #[.int .u32 k0,.agg #[.int .u32 h, .int .i64 p],.agg #[.int .u32 j, .int .i64 q],.int .i64 e,.agg (sgCells s),.int .i64 room,.int .i64 now,U,.pointer (some ⟨w.heap.size, 0, none⟩),.pointer (some ⟨qw1.heap.size, 0, none⟩),U,.pointer (some ⟨qw4.heap.size, 0, none⟩),U,U,.pointer (some ⟨qw7.heap.size, 0, none⟩),.bool true,.int .i64 ks,.bool true,.pointer (some ⟨qw15.heap.size, 0, none⟩),.pointer (some ⟨qw17.heap.size, 0, none⟩),.bool true,.pointer (some ⟨qw4.heap.size, 4, none⟩),.int .i64 s.fl,.bool true,.bool false,.bool false,.pointer (some ⟨qw4.heap.size, 4, none⟩),.int .i64 s.fl,.bool true,.bool false,.bool false,.bool false,.pointer (some ⟨qw4.heap.size, 4, none⟩),.int .i64 s.fl,.bool false,.bool false,.bool false,.pointer (some ⟨qw4.heap.size, 4, none⟩),.int .i64 s.fl,.bool false,.bool false,U,.tuple #[.int .i64 ks, .bool true],.int .u32 k0,.agg #[.int .u32 h, .int .i64 p],.agg #[.int .u32 j, .int .i64 q],.int .i64 e,.pointer (some ⟨qw4.heap.size, 3, none⟩),.int .u32 s.ak,.int .u32 (cok s),.tuple #[.int .i64 ks, .bool true],.int .i64 ks,.bool true,.bool true,.bool false,U,.tuple #[.agg (cnCells C0), .agg (sgCells S0), .bool true],.pointer (some ⟨qw4.heap.size, 2, none⟩),.int .u32 s.sq,.int .u32 ((s.sq - 1) % 4294967296),.pointer (some ⟨qw4.heap.size, 5, none⟩),.int .i64 s.wn,.agg (sgCells (askS s)),.pointer (some ⟨qw4.heap.size, 3, none⟩),.int .u32 s.ak,.int .u32 (cok s),.int .i64 room,.int .i64 now,.tuple #[.agg (cnCells C0), .agg (sgCells S0), .bool true],.agg (cnCells C0),.agg (sgCells S0),.bool true,.bool true,.bool false,U,.pointer (some ⟨qw15.heap.size, 0, none⟩),.pointer (some ⟨qw4.heap.size, 3, none⟩),.int .u32 s.ak,.pointer (some ⟨qw15.heap.size, 2, none⟩),.pointer (some ⟨qw4.heap.size, 3, none⟩),.int .u32 s.ak,.pointer (some ⟨qw15.heap.size, 8, none⟩),.pointer (some ⟨qw15.heap.size, 8, none⟩),.pointer (some ⟨qw4.heap.size, 3, none⟩),.int .u32 s.ak,.pointer (some ⟨qw15.heap.size, 3, none⟩),.pointer (some ⟨qw4.heap.size, 3, none⟩),.int .u32 s.ak,.pointer (some ⟨qw15.heap.size, 4, none⟩),.pointer (some ⟨qw15.heap.size, 31, none⟩),.pointer (some ⟨qw15.heap.size, 28, none⟩),.agg (cnCells { C0 with st := 3, una := s.ak, oF := s.ak, nxt := s.ak, mx := s.ak, agn := 0, tmg := false })] ?_
              go_wp2_with (fail)
              exact bodyPost_ret (v := .tuple #[.agg (cnCells { C0 with st := 3, una := s.ak, oF := s.ak, nxt := s.ak, mx := s.ak, agn := 0, tmg := false }), .bool true]) (results_cn2 (t := 14) (u := 15) rfl _ rfl qB52) rfl ⟨by rw [hV.out, tak_yes (by unfold takOk goesOn; rw [decide_eq_true c0, c1.out, c2.out, c3.out, c4.out, decide_eq_true c5]; rfl), takC, ← hC0.out], G⟩
            · simp only [if_neg c5] at hh
              refine vR ?_
              refine vV (.pointer (some ⟨qw4.heap.size, 4, none⟩)) ?_
              refine vD (.int .i64 s.fl) (qB8.cell 4) ?_
              refine vC (hin _) ?_
              rintro _ _ ⟨rfl, rfl⟩
              refine ⟨_, rfl, ?_⟩
              refine vV (.bool false) ?_
              refine vV (.bool false) ?_
              refine vV (.pointer (some ⟨qw4.heap.size, 4, none⟩)) ?_
              refine vD (.int .i64 s.fl) (qB8.cell 4) ?_
              refine vC (hf16 _) ?_
              rintro _ _ ⟨rfl, rfl⟩
              refine ⟨_, rfl, ?_⟩
              refine vV (.bool false) ?_
              refine vV (.bool false) ?_
              refine vV (.bool false) ?_
              refine vV (.pointer (some ⟨qw4.heap.size, 4, none⟩)) ?_
              refine vD (.int .i64 s.fl) (qB8.cell 4) ?_
              refine vC (hf2 _) ?_
              rintro _ _ ⟨rfl, rfl⟩
              refine ⟨_, rfl, ?_⟩
              refine vV (.bool false) ?_
              refine vV (.bool false) ?_
              refine vV (.pointer (some ⟨qw4.heap.size, 4, none⟩)) ?_
              refine vD (.int .i64 s.fl) (qB8.cell 4) ?_
              refine vC (hf4 _) ?_
              rintro _ _ ⟨rfl, rfl⟩
              refine ⟨_, rfl, ?_⟩
              refine vV (.bool false) ?_
              refine vE #[.int .u32 k0,.agg #[.int .u32 h, .int .i64 p],.agg #[.int .u32 j, .int .i64 q],.int .i64 e,.agg (sgCells s),.int .i64 room,.int .i64 now,U,.pointer (some ⟨w.heap.size, 0, none⟩),.pointer (some ⟨qw1.heap.size, 0, none⟩),U,.pointer (some ⟨qw4.heap.size, 0, none⟩),U,U,.pointer (some ⟨qw7.heap.size, 0, none⟩),.bool false,U,U,U,U,U,.pointer (some ⟨qw4.heap.size, 4, none⟩),.int .i64 s.fl,.bool true,.bool false,.bool false,.pointer (some ⟨qw4.heap.size, 4, none⟩),.int .i64 s.fl,.bool true,.bool false,.bool false,.bool false,.pointer (some ⟨qw4.heap.size, 4, none⟩),.int .i64 s.fl,.bool false,.bool false,.bool false,.pointer (some ⟨qw4.heap.size, 4, none⟩),.int .i64 s.fl,.bool false,.bool false,U,U,U,U,U,U,U,U,U,U,U,U,U,U,U,U,U,U,U,U,U,U,U,U,U,U,U,U,U,U,U,U,U,U,U,U,U,U,U,U,U,U,U,U,U,U,U,U,U,U,U] ?_
              go_upto_region 3 with (fail)
              refine vR ?_
              refine vV (.int .u32 k0) ?_
              refine vB ad_big qB2 rfl ?_
              refine vB ad_big qB5 rfl ?_
              refine vV (.int .i64 e) ?_
              refine vV (.pointer (some ⟨qw4.heap.size, 3, none⟩)) ?_
              refine vD (.int .u32 s.ak) (qB8.cell 3) ?_
              refine vV (.int .u32 (cok s)) ?_
              refine vK (hck _) ?_
              intro qw13 qg14
              replace qB2 := qB2.since qg14
              replace qB5 := qB5.since qg14
              replace qB8 := qB8.since qg14
              replace qB11 := qB11.since qg14
              replace G := G.trans qg14
              have qg14_s := qg14.size
              refine vV (.tuple #[.int .i64 ks, .bool true]) ?_
              refine vV (.int .i64 ks) ?_
              refine vV (.bool true) ?_
              refine vV (.int .i64 ks) ?_
              refine vV (.bool true) ?_
              refine vE #[.int .u32 k0,.agg #[.int .u32 h, .int .i64 p],.agg #[.int .u32 j, .int .i64 q],.int .i64 e,.agg (sgCells s),.int .i64 room,.int .i64 now,U,.pointer (some ⟨w.heap.size, 0, none⟩),.pointer (some ⟨qw1.heap.size, 0, none⟩),U,.pointer (some ⟨qw4.heap.size, 0, none⟩),U,U,.pointer (some ⟨qw7.heap.size, 0, none⟩),.bool false,.int .i64 ks,.bool true,U,U,U,.pointer (some ⟨qw4.heap.size, 4, none⟩),.int .i64 s.fl,.bool true,.bool false,.bool false,.pointer (some ⟨qw4.heap.size, 4, none⟩),.int .i64 s.fl,.bool true,.bool false,.bool false,.bool false,.pointer (some ⟨qw4.heap.size, 4, none⟩),.int .i64 s.fl,.bool false,.bool false,.bool false,.pointer (some ⟨qw4.heap.size, 4, none⟩),.int .i64 s.fl,.bool false,.bool false,U,.tuple #[.int .i64 ks, .bool true],.int .u32 k0,.agg #[.int .u32 h, .int .i64 p],.agg #[.int .u32 j, .int .i64 q],.int .i64 e,.pointer (some ⟨qw4.heap.size, 3, none⟩),.int .u32 s.ak,.int .u32 (cok s),.tuple #[.int .i64 ks, .bool true],.int .i64 ks,.bool true,U,U,U,U,U,U,U,U,U,U,U,U,U,U,U,U,U,U,U,U,U,U,U,U,U,U,U,U,U,U,U,U,U,U,U,U,U,U,U] ?_
              go_upto_region 4 with (fail)
              refine vR ?_
              refine vV (.bool true) ?_
              refine vV (.bool false) ?_
              refine vE #[.int .u32 k0,.agg #[.int .u32 h, .int .i64 p],.agg #[.int .u32 j, .int .i64 q],.int .i64 e,.agg (sgCells s),.int .i64 room,.int .i64 now,U,.pointer (some ⟨w.heap.size, 0, none⟩),.pointer (some ⟨qw1.heap.size, 0, none⟩),U,.pointer (some ⟨qw4.heap.size, 0, none⟩),U,U,.pointer (some ⟨qw7.heap.size, 0, none⟩),.bool false,.int .i64 ks,.bool true,U,U,U,.pointer (some ⟨qw4.heap.size, 4, none⟩),.int .i64 s.fl,.bool true,.bool false,.bool false,.pointer (some ⟨qw4.heap.size, 4, none⟩),.int .i64 s.fl,.bool true,.bool false,.bool false,.bool false,.pointer (some ⟨qw4.heap.size, 4, none⟩),.int .i64 s.fl,.bool false,.bool false,.bool false,.pointer (some ⟨qw4.heap.size, 4, none⟩),.int .i64 s.fl,.bool false,.bool false,U,.tuple #[.int .i64 ks, .bool true],.int .u32 k0,.agg #[.int .u32 h, .int .i64 p],.agg #[.int .u32 j, .int .i64 q],.int .i64 e,.pointer (some ⟨qw4.heap.size, 3, none⟩),.int .u32 s.ak,.int .u32 (cok s),.tuple #[.int .i64 ks, .bool true],.int .i64 ks,.bool true,.bool true,.bool false,U,U,U,U,U,U,U,U,U,U,U,U,U,U,U,U,U,U,U,U,U,U,U,U,U,U,U,U,U,U,U,U,U,U,U,U,U] ?_
              go_upto_region 6 with (fail)
              refine vR ?_
              refine vV (.pointer (some ⟨qw4.heap.size, 2, none⟩)) ?_
              refine vD (.int .u32 s.sq) (qB8.cell 2) ?_
              refine vV (.int .u32 ((s.sq - 1) % 4294967296)) ?_
              refine vV (.pointer (some ⟨qw4.heap.size, 5, none⟩)) ?_
              refine vD (.int .i64 s.wn) (qB8.cell 5) ?_
              refine vV (.agg (sgCells (askS s))) ?_
              refine vV (.pointer (some ⟨qw4.heap.size, 3, none⟩)) ?_
              refine vD (.int .u32 s.ak) (qB8.cell 3) ?_
              refine vV (.int .u32 (cok s)) ?_
              refine vV (.int .i64 room) ?_
              refine vV (.int .i64 now) ?_
              refine vK (hh _) ?_
              intro qw15 qg16
              replace qB2 := qB2.since qg16
              replace qB5 := qB5.since qg16
              replace qB8 := qB8.since qg16
              replace qB11 := qB11.since qg16
              replace G := G.trans qg16
              have qg16_s := qg16.size
              refine vV (.tuple #[.agg (cnCells cnZero), .agg (sgCells sgZero), .bool false]) ?_
              refine vV (.agg (cnCells cnZero)) ?_
              refine vV (.agg (sgCells sgZero)) ?_
              refine vV (.bool false) ?_
              refine vW (qw15.alloc (.cells (cnCells cnZero) 46)) (.pointer (some ⟨qw15.heap.size, 0, none⟩)) ?_
              have qB18 := Blk.new qw15 (cnCells cnZero) 46
              have qg19 := (Since.refl qw15).alloc (.cells (cnCells cnZero) 46)
              replace qB2 := qB2.since qg19
              replace qB5 := qB5.since qg19
              replace qB8 := qB8.since qg19
              replace qB11 := qB11.since qg19
              replace G := G.trans qg19
              generalize qw15.alloc (.cells (cnCells cnZero) 46) = qw17 at qB2 qB5 qB8 qB11 G qB18 qg19 ⊢
              have qB18_l := qB18.lt
              have qg19_s := qg19.size
              refine vW (qw17.alloc (.cells (sgCells sgZero) 28)) (.pointer (some ⟨qw17.heap.size, 0, none⟩)) ?_
              have qB21 := Blk.new qw17 (sgCells sgZero) 28
              have qg22 := (Since.refl qw17).alloc (.cells (sgCells sgZero) 28)
              replace qB2 := qB2.since qg22
              replace qB5 := qB5.since qg22
              replace qB8 := qB8.since qg22
              replace qB11 := qB11.since qg22
              replace qB18 := qB18.since qg22
              replace G := G.trans qg22
              generalize qw17.alloc (.cells (sgCells sgZero) 28) = qw20 at qB2 qB5 qB8 qB11 qB18 G qB21 qg22 ⊢
              have qB21_l := qB21.lt
              have qg22_s := qg22.size
              refine sB (cnCells cnZero) cn_big qB18 (cn_size _) (cn_size _) (cn_one _) ?_
              intro qw23 qt24 qB25
              clear qB18
              replace qB2 := qB2.touch qt24 (by omega)
              replace qB5 := qB5.touch qt24 (by omega)
              replace qB8 := qB8.touch qt24 (by omega)
              replace qB11 := qB11.touch qt24 (by omega)
              replace qB21 := qB21.touch qt24 (by omega)
              replace G := since_touch G qt24 (by omega)
              have qt24_s := qt24.size
              refine sB (sgCells sgZero) seg_big qB21 rfl rfl (seg_one _ _ _ _ _ _ _ _) ?_
              intro qw26 qt27 qB28
              clear qB21
              replace qB2 := qB2.touch qt27 (by omega)
              replace qB5 := qB5.touch qt27 (by omega)
              replace qB8 := qB8.touch qt27 (by omega)
              replace qB11 := qB11.touch qt27 (by omega)
              replace qB25 := qB25.touch qt27 (by omega)
              replace G := since_touch G qt27 (by omega)
              have qt27_s := qt27.size
              refine vV (.bool false) ?_
              refine vE #[.int .u32 k0,.agg #[.int .u32 h, .int .i64 p],.agg #[.int .u32 j, .int .i64 q],.int .i64 e,.agg (sgCells s),.int .i64 room,.int .i64 now,U,.pointer (some ⟨w.heap.size, 0, none⟩),.pointer (some ⟨qw1.heap.size, 0, none⟩),U,.pointer (some ⟨qw4.heap.size, 0, none⟩),U,U,.pointer (some ⟨qw7.heap.size, 0, none⟩),.bool false,.int .i64 ks,.bool true,.pointer (some ⟨qw15.heap.size, 0, none⟩),.pointer (some ⟨qw17.heap.size, 0, none⟩),.bool false,.pointer (some ⟨qw4.heap.size, 4, none⟩),.int .i64 s.fl,.bool true,.bool false,.bool false,.pointer (some ⟨qw4.heap.size, 4, none⟩),.int .i64 s.fl,.bool true,.bool false,.bool false,.bool false,.pointer (some ⟨qw4.heap.size, 4, none⟩),.int .i64 s.fl,.bool false,.bool false,.bool false,.pointer (some ⟨qw4.heap.size, 4, none⟩),.int .i64 s.fl,.bool false,.bool false,U,.tuple #[.int .i64 ks, .bool true],.int .u32 k0,.agg #[.int .u32 h, .int .i64 p],.agg #[.int .u32 j, .int .i64 q],.int .i64 e,.pointer (some ⟨qw4.heap.size, 3, none⟩),.int .u32 s.ak,.int .u32 (cok s),.tuple #[.int .i64 ks, .bool true],.int .i64 ks,.bool true,.bool true,.bool false,U,.tuple #[.agg (cnCells cnZero), .agg (sgCells sgZero), .bool false],.pointer (some ⟨qw4.heap.size, 2, none⟩),.int .u32 s.sq,.int .u32 ((s.sq - 1) % 4294967296),.pointer (some ⟨qw4.heap.size, 5, none⟩),.int .i64 s.wn,.agg (sgCells (askS s)),.pointer (some ⟨qw4.heap.size, 3, none⟩),.int .u32 s.ak,.int .u32 (cok s),.int .i64 room,.int .i64 now,.tuple #[.agg (cnCells cnZero), .agg (sgCells sgZero), .bool false],.agg (cnCells cnZero),.agg (sgCells sgZero),.bool false,U,U,U,U,U,U,U,U,U,U,U,U,U,U,U,U,U,U,U,U] ?_
              go_upto_region 7 with (fail)
              refine vR ?_
              refine vV (.bool false) ?_
              refine vV (.bool true) ?_
              refine vE #[.int .u32 k0,.agg #[.int .u32 h, .int .i64 p],.agg #[.int .u32 j, .int .i64 q],.int .i64 e,.agg (sgCells s),.int .i64 room,.int .i64 now,U,.pointer (some ⟨w.heap.size, 0, none⟩),.pointer (some ⟨qw1.heap.size, 0, none⟩),U,.pointer (some ⟨qw4.heap.size, 0, none⟩),U,U,.pointer (some ⟨qw7.heap.size, 0, none⟩),.bool false,.int .i64 ks,.bool true,.pointer (some ⟨qw15.heap.size, 0, none⟩),.pointer (some ⟨qw17.heap.size, 0, none⟩),.bool false,.pointer (some ⟨qw4.heap.size, 4, none⟩),.int .i64 s.fl,.bool true,.bool false,.bool false,.pointer (some ⟨qw4.heap.size, 4, none⟩),.int .i64 s.fl,.bool true,.bool false,.bool false,.bool false,.pointer (some ⟨qw4.heap.size, 4, none⟩),.int .i64 s.fl,.bool false,.bool false,.bool false,.pointer (some ⟨qw4.heap.size, 4, none⟩),.int .i64 s.fl,.bool false,.bool false,U,.tuple #[.int .i64 ks, .bool true],.int .u32 k0,.agg #[.int .u32 h, .int .i64 p],.agg #[.int .u32 j, .int .i64 q],.int .i64 e,.pointer (some ⟨qw4.heap.size, 3, none⟩),.int .u32 s.ak,.int .u32 (cok s),.tuple #[.int .i64 ks, .bool true],.int .i64 ks,.bool true,.bool true,.bool false,U,.tuple #[.agg (cnCells cnZero), .agg (sgCells sgZero), .bool false],.pointer (some ⟨qw4.heap.size, 2, none⟩),.int .u32 s.sq,.int .u32 ((s.sq - 1) % 4294967296),.pointer (some ⟨qw4.heap.size, 5, none⟩),.int .i64 s.wn,.agg (sgCells (askS s)),.pointer (some ⟨qw4.heap.size, 3, none⟩),.int .u32 s.ak,.int .u32 (cok s),.int .i64 room,.int .i64 now,.tuple #[.agg (cnCells cnZero), .agg (sgCells sgZero), .bool false],.agg (cnCells cnZero),.agg (sgCells sgZero),.bool false,.bool false,.bool true,U,U,U,U,U,U,U,U,U,U,U,U,U,U,U,U,U,U] ?_
              go_upto_region 8 with (fail)
              refine vR ?_
              refine vV (.agg (cnCells cnZero)) ?_
              refine sB (cnCells cnZero) cn_big qB11 (cn_size _) (cn_size _) (cn_one _) ?_
              intro qw29 qt30 qB31
              clear qB11
              replace qB2 := qB2.touch qt30 (by omega)
              replace qB5 := qB5.touch qt30 (by omega)
              replace qB8 := qB8.touch qt30 (by omega)
              replace qB25 := qB25.touch qt30 (by omega)
              replace qB28 := qB28.touch qt30 (by omega)
              replace G := since_touch G qt30 (by omega)
              have qt30_s := qt30.size
              refine vV (.bool false) ?_
              refine vE #[.int .u32 k0,.agg #[.int .u32 h, .int .i64 p],.agg #[.int .u32 j, .int .i64 q],.int .i64 e,.agg (sgCells s),.int .i64 room,.int .i64 now,U,.pointer (some ⟨w.heap.size, 0, none⟩),.pointer (some ⟨qw1.heap.size, 0, none⟩),U,.pointer (some ⟨qw4.heap.size, 0, none⟩),U,U,.pointer (some ⟨qw7.heap.size, 0, none⟩),.bool false,.int .i64 ks,.bool true,.pointer (some ⟨qw15.heap.size, 0, none⟩),.pointer (some ⟨qw17.heap.size, 0, none⟩),.bool false,.pointer (some ⟨qw4.heap.size, 4, none⟩),.int .i64 s.fl,.bool true,.bool false,.bool false,.pointer (some ⟨qw4.heap.size, 4, none⟩),.int .i64 s.fl,.bool true,.bool false,.bool false,.bool false,.pointer (some ⟨qw4.heap.size, 4, none⟩),.int .i64 s.fl,.bool false,.bool false,.bool false,.pointer (some ⟨qw4.heap.size, 4, none⟩),.int .i64 s.fl,.bool false,.bool false,U,.tuple #[.int .i64 ks, .bool true],.int .u32 k0,.agg #[.int .u32 h, .int .i64 p],.agg #[.int .u32 j, .int .i64 q],.int .i64 e,.pointer (some ⟨qw4.heap.size, 3, none⟩),.int .u32 s.ak,.int .u32 (cok s),.tuple #[.int .i64 ks, .bool true],.int .i64 ks,.bool true,.bool true,.bool false,U,.tuple #[.agg (cnCells cnZero), .agg (sgCells sgZero), .bool false],.pointer (some ⟨qw4.heap.size, 2, none⟩),.int .u32 s.sq,.int .u32 ((s.sq - 1) % 4294967296),.pointer (some ⟨qw4.heap.size, 5, none⟩),.int .i64 s.wn,.agg (sgCells (askS s)),.pointer (some ⟨qw4.heap.size, 3, none⟩),.int .u32 s.ak,.int .u32 (cok s),.int .i64 room,.int .i64 now,.tuple #[.agg (cnCells cnZero), .agg (sgCells sgZero), .bool false],.agg (cnCells cnZero),.agg (sgCells sgZero),.bool false,.bool false,.bool true,.agg (cnCells cnZero),U,U,U,U,U,U,U,U,U,U,U,U,U,U,U,U,U] ?_
              go_wp2_with (fail)
              exact bodyPost_ret (v := .tuple #[.agg (cnCells cnZero), .bool false]) (results_cn2 (t := 14) (u := 15) rfl _ rfl qB31) rfl ⟨by rw [hV.out, tak_no (by unfold takOk; simp [c5])], G⟩
        · rw [c3] at hf4
          replace c3 : Hid _ := c3
          refine vR ?_
          refine vV (.pointer (some ⟨qw4.heap.size, 4, none⟩)) ?_
          refine vD (.int .i64 s.fl) (qB8.cell 4) ?_
          refine vC (hin _) ?_
          rintro _ _ ⟨rfl, rfl⟩
          refine ⟨_, rfl, ?_⟩
          refine vV (.bool false) ?_
          refine vV (.bool false) ?_
          refine vV (.pointer (some ⟨qw4.heap.size, 4, none⟩)) ?_
          refine vD (.int .i64 s.fl) (qB8.cell 4) ?_
          refine vC (hf16 _) ?_
          rintro _ _ ⟨rfl, rfl⟩
          refine ⟨_, rfl, ?_⟩
          refine vV (.bool false) ?_
          refine vV (.bool false) ?_
          refine vV (.bool false) ?_
          refine vV (.pointer (some ⟨qw4.heap.size, 4, none⟩)) ?_
          refine vD (.int .i64 s.fl) (qB8.cell 4) ?_
          refine vC (hf2 _) ?_
          rintro _ _ ⟨rfl, rfl⟩
          refine ⟨_, rfl, ?_⟩
          refine vV (.bool false) ?_
          refine vV (.bool false) ?_
          refine vV (.pointer (some ⟨qw4.heap.size, 4, none⟩)) ?_
          refine vD (.int .i64 s.fl) (qB8.cell 4) ?_
          refine vC (hf4 _) ?_
          rintro _ _ ⟨rfl, rfl⟩
          refine ⟨_, rfl, ?_⟩
          refine vV (.bool true) ?_
          refine vE #[.int .u32 k0,.agg #[.int .u32 h, .int .i64 p],.agg #[.int .u32 j, .int .i64 q],.int .i64 e,.agg (sgCells s),.int .i64 room,.int .i64 now,U,.pointer (some ⟨w.heap.size, 0, none⟩),.pointer (some ⟨qw1.heap.size, 0, none⟩),U,.pointer (some ⟨qw4.heap.size, 0, none⟩),U,U,.pointer (some ⟨qw7.heap.size, 0, none⟩),.bool false,U,U,U,U,U,.pointer (some ⟨qw4.heap.size, 4, none⟩),.int .i64 s.fl,.bool true,.bool false,.bool false,.pointer (some ⟨qw4.heap.size, 4, none⟩),.int .i64 s.fl,.bool true,.bool false,.bool false,.bool false,.pointer (some ⟨qw4.heap.size, 4, none⟩),.int .i64 s.fl,.bool false,.bool false,.bool false,.pointer (some ⟨qw4.heap.size, 4, none⟩),.int .i64 s.fl,.bool true,.bool true,U,U,U,U,U,U,U,U,U,U,U,U,U,U,U,U,U,U,U,U,U,U,U,U,U,U,U,U,U,U,U,U,U,U,U,U,U,U,U,U,U,U,U,U,U,U,U,U,U,U,U] ?_
          go_upto_region 2 with (fail)
          refine vR ?_
          refine vV (.agg (cnCells cnZero)) ?_
          refine sB (cnCells cnZero) cn_big qB11 (cn_size _) (cn_size _) (cn_one _) ?_
          intro qw13 qt14 qB15
          clear qB11
          replace qB2 := qB2.touch qt14 (by omega)
          replace qB5 := qB5.touch qt14 (by omega)
          replace qB8 := qB8.touch qt14 (by omega)
          replace G := since_touch G qt14 (by omega)
          have qt14_s := qt14.size
          refine vV (.bool false) ?_
          refine vE #[.int .u32 k0,.agg #[.int .u32 h, .int .i64 p],.agg #[.int .u32 j, .int .i64 q],.int .i64 e,.agg (sgCells s),.int .i64 room,.int .i64 now,U,.pointer (some ⟨w.heap.size, 0, none⟩),.pointer (some ⟨qw1.heap.size, 0, none⟩),U,.pointer (some ⟨qw4.heap.size, 0, none⟩),U,U,.pointer (some ⟨qw7.heap.size, 0, none⟩),.bool false,U,U,U,U,U,.pointer (some ⟨qw4.heap.size, 4, none⟩),.int .i64 s.fl,.bool true,.bool false,.bool false,.pointer (some ⟨qw4.heap.size, 4, none⟩),.int .i64 s.fl,.bool true,.bool false,.bool false,.bool false,.pointer (some ⟨qw4.heap.size, 4, none⟩),.int .i64 s.fl,.bool false,.bool false,.bool false,.pointer (some ⟨qw4.heap.size, 4, none⟩),.int .i64 s.fl,.bool true,.bool true,.agg (cnCells cnZero),U,U,U,U,U,U,U,U,U,U,U,U,U,U,U,U,U,U,U,U,U,U,U,U,U,U,U,U,U,U,U,U,U,U,U,U,U,U,U,U,U,U,U,U,U,U,U,U,U,U] ?_
          go_wp2_with (fail)
          exact bodyPost_ret (v := .tuple #[.agg (cnCells cnZero), .bool false]) (results_cn2 (t := 14) (u := 15) rfl _ rfl qB15) rfl ⟨by rw [hV.out, tak_no (by unfold takOk goesOn; rw [c3.out]; simp)], G⟩
      · rw [c2] at hf2
        replace c2 : Hid _ := c2
        refine vR ?_
        refine vV (.pointer (some ⟨qw4.heap.size, 4, none⟩)) ?_
        refine vD (.int .i64 s.fl) (qB8.cell 4) ?_
        refine vC (hin _) ?_
        rintro _ _ ⟨rfl, rfl⟩
        refine ⟨_, rfl, ?_⟩
        refine vV (.bool false) ?_
        refine vV (.bool false) ?_
        refine vV (.pointer (some ⟨qw4.heap.size, 4, none⟩)) ?_
        refine vD (.int .i64 s.fl) (qB8.cell 4) ?_
        refine vC (hf16 _) ?_
        rintro _ _ ⟨rfl, rfl⟩
        refine ⟨_, rfl, ?_⟩
        refine vV (.bool false) ?_
        refine vV (.bool false) ?_
        refine vV (.bool false) ?_
        refine vV (.pointer (some ⟨qw4.heap.size, 4, none⟩)) ?_
        refine vD (.int .i64 s.fl) (qB8.cell 4) ?_
        refine vC (hf2 _) ?_
        rintro _ _ ⟨rfl, rfl⟩
        refine ⟨_, rfl, ?_⟩
        refine vV (.bool true) ?_
        refine vV (.bool true) ?_
        refine vS ?_
        refine vS ?_
        refine vS ?_
        refine vV (.bool true) ?_
        refine vE #[.int .u32 k0,.agg #[.int .u32 h, .int .i64 p],.agg #[.int .u32 j, .int .i64 q],.int .i64 e,.agg (sgCells s),.int .i64 room,.int .i64 now,U,.pointer (some ⟨w.heap.size, 0, none⟩),.pointer (some ⟨qw1.heap.size, 0, none⟩),U,.pointer (some ⟨qw4.heap.size, 0, none⟩),U,U,.pointer (some ⟨qw7.heap.size, 0, none⟩),.bool false,U,U,U,U,U,.pointer (some ⟨qw4.heap.size, 4, none⟩),.int .i64 s.fl,.bool true,.bool false,.bool false,.pointer (some ⟨qw4.heap.size, 4, none⟩),.int .i64 s.fl,.bool true,.bool false,.bool false,.bool false,.pointer (some ⟨qw4.heap.size, 4, none⟩),.int .i64 s.fl,.bool true,.bool true,.bool true,U,U,U,.bool true,U,U,U,U,U,U,U,U,U,U,U,U,U,U,U,U,U,U,U,U,U,U,U,U,U,U,U,U,U,U,U,U,U,U,U,U,U,U,U,U,U,U,U,U,U,U,U,U,U,U,U] ?_
        go_upto_region 2 with (fail)
        refine vR ?_
        refine vV (.agg (cnCells cnZero)) ?_
        refine sB (cnCells cnZero) cn_big qB11 (cn_size _) (cn_size _) (cn_one _) ?_
        intro qw13 qt14 qB15
        clear qB11
        replace qB2 := qB2.touch qt14 (by omega)
        replace qB5 := qB5.touch qt14 (by omega)
        replace qB8 := qB8.touch qt14 (by omega)
        replace G := since_touch G qt14 (by omega)
        have qt14_s := qt14.size
        refine vV (.bool false) ?_
        refine vE #[.int .u32 k0,.agg #[.int .u32 h, .int .i64 p],.agg #[.int .u32 j, .int .i64 q],.int .i64 e,.agg (sgCells s),.int .i64 room,.int .i64 now,U,.pointer (some ⟨w.heap.size, 0, none⟩),.pointer (some ⟨qw1.heap.size, 0, none⟩),U,.pointer (some ⟨qw4.heap.size, 0, none⟩),U,U,.pointer (some ⟨qw7.heap.size, 0, none⟩),.bool false,U,U,U,U,U,.pointer (some ⟨qw4.heap.size, 4, none⟩),.int .i64 s.fl,.bool true,.bool false,.bool false,.pointer (some ⟨qw4.heap.size, 4, none⟩),.int .i64 s.fl,.bool true,.bool false,.bool false,.bool false,.pointer (some ⟨qw4.heap.size, 4, none⟩),.int .i64 s.fl,.bool true,.bool true,.bool true,U,U,U,.bool true,.agg (cnCells cnZero),U,U,U,U,U,U,U,U,U,U,U,U,U,U,U,U,U,U,U,U,U,U,U,U,U,U,U,U,U,U,U,U,U,U,U,U,U,U,U,U,U,U,U,U,U,U,U,U,U,U] ?_
        go_wp2_with (fail)
        exact bodyPost_ret (v := .tuple #[.agg (cnCells cnZero), .bool false]) (results_cn2 (t := 14) (u := 15) rfl _ rfl qB15) rfl ⟨by rw [hV.out, tak_no (by unfold takOk goesOn; rw [c2.out]; simp)], G⟩
  · rw [decide_eq_false c0] at hin
    refine vR ?_
    refine vV (.pointer (some ⟨qw4.heap.size, 4, none⟩)) ?_
    refine vD (.int .i64 s.fl) (qB8.cell 4) ?_
    refine vC (hin _) ?_
    rintro _ _ ⟨rfl, rfl⟩
    refine ⟨_, rfl, ?_⟩
    refine vV (.bool true) ?_
    refine vV (.bool true) ?_
    refine vS ?_
    refine vS ?_
    refine vS ?_
    refine vS ?_
    refine vV (.bool true) ?_
    refine vV (.bool true) ?_
    refine vS ?_
    refine vS ?_
    refine vS ?_
    refine vV (.bool true) ?_
    refine vV (.bool true) ?_
    refine vS ?_
    refine vS ?_
    refine vS ?_
    refine vV (.bool true) ?_
    refine vE #[.int .u32 k0,.agg #[.int .u32 h, .int .i64 p],.agg #[.int .u32 j, .int .i64 q],.int .i64 e,.agg (sgCells s),.int .i64 room,.int .i64 now,U,.pointer (some ⟨w.heap.size, 0, none⟩),.pointer (some ⟨qw1.heap.size, 0, none⟩),U,.pointer (some ⟨qw4.heap.size, 0, none⟩),U,U,.pointer (some ⟨qw7.heap.size, 0, none⟩),.bool false,U,U,U,U,U,.pointer (some ⟨qw4.heap.size, 4, none⟩),.int .i64 s.fl,.bool false,.bool true,.bool true,U,U,U,U,.bool true,.bool true,U,U,U,.bool true,.bool true,U,U,U,.bool true,U,U,U,U,U,U,U,U,U,U,U,U,U,U,U,U,U,U,U,U,U,U,U,U,U,U,U,U,U,U,U,U,U,U,U,U,U,U,U,U,U,U,U,U,U,U,U,U,U,U,U] ?_
    go_upto_region 2 with (fail)
    refine vR ?_
    refine vV (.agg (cnCells cnZero)) ?_
    refine sB (cnCells cnZero) cn_big qB11 (cn_size _) (cn_size _) (cn_one _) ?_
    intro qw13 qt14 qB15
    clear qB11
    replace qB2 := qB2.touch qt14 (by omega)
    replace qB5 := qB5.touch qt14 (by omega)
    replace qB8 := qB8.touch qt14 (by omega)
    replace G := since_touch G qt14 (by omega)
    have qt14_s := qt14.size
    refine vV (.bool false) ?_
    refine vE #[.int .u32 k0,.agg #[.int .u32 h, .int .i64 p],.agg #[.int .u32 j, .int .i64 q],.int .i64 e,.agg (sgCells s),.int .i64 room,.int .i64 now,U,.pointer (some ⟨w.heap.size, 0, none⟩),.pointer (some ⟨qw1.heap.size, 0, none⟩),U,.pointer (some ⟨qw4.heap.size, 0, none⟩),U,U,.pointer (some ⟨qw7.heap.size, 0, none⟩),.bool false,U,U,U,U,U,.pointer (some ⟨qw4.heap.size, 4, none⟩),.int .i64 s.fl,.bool false,.bool true,.bool true,U,U,U,U,.bool true,.bool true,U,U,U,.bool true,.bool true,U,U,U,.bool true,.agg (cnCells cnZero),U,U,U,U,U,U,U,U,U,U,U,U,U,U,U,U,U,U,U,U,U,U,U,U,U,U,U,U,U,U,U,U,U,U,U,U,U,U,U,U,U,U,U,U,U,U,U,U,U,U] ?_
    go_wp2_with (fail)
    exact bodyPost_ret (v := .tuple #[.agg (cnCells cnZero), .bool false]) (results_cn2 (t := 14) (u := 15) rfl _ rfl qB15) rfl ⟨by rw [hV.out, tak_no (by unfold takOk goesOn; rw [decide_eq_false c0]; rfl)], G⟩
end Go.Proofs.YtjilpicpfddbfabDoor
