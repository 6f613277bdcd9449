/-
  An answer of which nothing is kept: contracts of spec's and impl's HearCookie.
-/
import Derived.Test.YtjilpicpfddbfabDoorTk15
import Derived.Test.YtjilpicpfddbfabDoorDrawnTail
import Derived.Deep.DeepCutAuto
namespace Go.Proofs.YtjilpicpfddbfabDoor
open Go.ChangeShapes Go.WideShapes Go.ChangeAt Go.RowKit Go.Deep
set_option linter.unusedVariables false
set_option maxRecDepth 10000

set_option maxRecDepth 20000 in
set_option maxHeartbeats 8000000 in
theorem specHearCk (k0 h p j q e : Int) (s : Sg) (w : World) :
    Calls Tryd.prog 6 #[.int .u32 k0, addrVal h p, addrVal j q, .int .i64 e, .agg (sgCells s)] w fun f w' => f = .returned (hearCk k0 h p j q e s) ∧ Since w w' := by
  have h1 := fun wx => l15Ok h p j q e wx
  have h3 := fun wx => specIn s.wn 0 65535 wx
  have hm := fun wx => specMssStep s.ms wx
  have hk := fun wx => specCookie k0 h p j q e (stepTo s.ms 8) wx
  obtain ⟨V, hV⟩ : ∃ V, Hid (V = hearCk k0 h p j q e s) := ⟨_, rfl⟩
  rw [← hV.out]
  have G := Since.refl w
  unfold addrVal at *
  go_enter Tryd.func6, Tryd.ntmps6
  go_upto_region 0 with (fail)
  refine vR ?_
  refine vW (w.alloc (.cells #[.int .u32 h, .int .i64 p] 31)) (.pointer (some ⟨w.heap.size, 0, none⟩)) ?_
  have qB2 := Blk.new w #[.int .u32 h, .int .i64 p] 31
  have qg3 := (Since.refl w).alloc (.cells #[.int .u32 h, .int .i64 p] 31)
  replace G := G.trans qg3
  generalize w.alloc (.cells #[.int .u32 h, .int .i64 p] 31) = qw1 at  G qB2 qg3 ⊢
  have qB2_l := qB2.lt
  have qg3_s := qg3.size
  refine vW (qw1.alloc (.cells #[.int .u32 j, .int .i64 q] 31)) (.pointer (some ⟨qw1.heap.size, 0, none⟩)) ?_
  have qB5 := Blk.new qw1 #[.int .u32 j, .int .i64 q] 31
  have qg6 := (Since.refl qw1).alloc (.cells #[.int .u32 j, .int .i64 q] 31)
  replace qB2 := qB2.since qg6
  replace G := G.trans qg6
  generalize qw1.alloc (.cells #[.int .u32 j, .int .i64 q] 31) = qw4 at qB2 G qB5 qg6 ⊢
  have qB5_l := qB5.lt
  have qg6_s := qg6.size
  refine vW (qw4.alloc (.cells (sgCells s) 28)) (.pointer (some ⟨qw4.heap.size, 0, none⟩)) ?_
  have qB8 := Blk.new qw4 (sgCells s) 28
  have qg9 := (Since.refl qw4).alloc (.cells (sgCells s) 28)
  replace qB2 := qB2.since qg9
  replace qB5 := qB5.since qg9
  replace G := G.trans qg9
  generalize qw4.alloc (.cells (sgCells s) 28) = qw7 at qB2 qB5 G qB8 qg9 ⊢
  have qB8_l := qB8.lt
  have qg9_s := qg9.size
  refine vW (qw7.alloc (.cells (sgCells sgZero) 28)) (.pointer (some ⟨qw7.heap.size, 0, none⟩)) ?_
  have qB11 := Blk.new qw7 (sgCells sgZero) 28
  have qg12 := (Since.refl qw7).alloc (.cells (sgCells sgZero) 28)
  replace qB2 := qB2.since qg12
  replace qB5 := qB5.since qg12
  replace qB8 := qB8.since qg12
  replace G := G.trans qg12
  generalize qw7.alloc (.cells (sgCells sgZero) 28) = qw10 at qB2 qB5 qB8 G qB11 qg12 ⊢
  have qB11_l := qB11.lt
  have qg12_s := qg12.size
  refine vV (.bool false) ?_
  refine vE #[.int .u32 k0,.agg #[.int .u32 h, .int .i64 p],.agg #[.int .u32 j, .int .i64 q],.int .i64 e,.agg (sgCells s),U,.pointer (some ⟨w.heap.size, 0, none⟩),.pointer (some ⟨qw1.heap.size, 0, none⟩),U,.pointer (some ⟨qw4.heap.size, 0, none⟩),.pointer (some ⟨qw7.heap.size, 0, none⟩),.bool false,U,U,U,U,U,U,U,U,U,U,U,U,U,U,U,U,U,U,U,U,U,U,U,U,U,U,U,U,U,U,U,U,U,U] ?_
  go_upto_region 1 with (fail)
  cases c1 : ckOk p q e
  · rw [c1] at h1
    replace c1 : Hid _ := c1
    refine vR ?_
    refine vB ad_big qB2 rfl ?_
    refine vB ad_big qB5 rfl ?_
    refine vV (.int .i64 e) ?_
    refine vK (h1 _) ?_
    intro qw13 qg14
    replace qB2 := qB2.since qg14
    replace qB5 := qB5.since qg14
    replace qB8 := qB8.since qg14
    replace qB11 := qB11.since qg14
    replace G := G.trans qg14
    have qg14_s := qg14.size
    refine vV (.bool true) ?_
    refine vV (.bool true) ?_
    refine vS ?_
    refine vS ?_
    refine vS ?_
    refine vV (.bool true) ?_
    refine vV (.bool true) ?_
    refine vS ?_
    refine vS ?_
    refine vS ?_
    refine vS ?_
    refine vV (.bool true) ?_
    refine vV (.bool true) ?_
    refine vS ?_
    refine vS ?_
    refine vS ?_
    refine vV (.bool true) ?_
    refine vE #[.int .u32 k0,.agg #[.int .u32 h, .int .i64 p],.agg #[.int .u32 j, .int .i64 q],.int .i64 e,.agg (sgCells s),U,.pointer (some ⟨w.heap.size, 0, none⟩),.pointer (some ⟨qw1.heap.size, 0, none⟩),U,.pointer (some ⟨qw4.heap.size, 0, none⟩),.pointer (some ⟨qw7.heap.size, 0, none⟩),.bool false,.agg #[.int .u32 h, .int .i64 p],.agg #[.int .u32 j, .int .i64 q],.int .i64 e,.bool false,.bool true,.bool true,U,U,U,.bool true,.bool true,U,U,U,U,.bool true,.bool true,U,U,U,.bool true,U,U,U,U,U,U,U,U,U,U,U,U,U] ?_
    go_upto_region 2 with (fail)
    refine vR ?_
    refine vV (.agg (sgCells sgZero)) ?_
    refine sB (sgCells sgZero) seg_big qB11 rfl rfl (seg_one _ _ _ _ _ _ _ _) ?_
    intro qw15 qt16 qB17
    clear qB11
    replace qB2 := qB2.touch qt16 (by omega)
    replace qB5 := qB5.touch qt16 (by omega)
    replace qB8 := qB8.touch qt16 (by omega)
    replace G := since_touch G qt16 (by omega)
    have qt16_s := qt16.size
    refine vV (.bool false) ?_
    refine vE #[.int .u32 k0,.agg #[.int .u32 h, .int .i64 p],.agg #[.int .u32 j, .int .i64 q],.int .i64 e,.agg (sgCells s),U,.pointer (some ⟨w.heap.size, 0, none⟩),.pointer (some ⟨qw1.heap.size, 0, none⟩),U,.pointer (some ⟨qw4.heap.size, 0, none⟩),.pointer (some ⟨qw7.heap.size, 0, none⟩),.bool false,.agg #[.int .u32 h, .int .i64 p],.agg #[.int .u32 j, .int .i64 q],.int .i64 e,.bool false,.bool true,.bool true,U,U,U,.bool true,.bool true,U,U,U,U,.bool true,.bool true,U,U,U,.bool true,.agg (sgCells sgZero),U,U,U,U,U,U,U,U,U,U,U,U] ?_
    go_wp2_with (fail)
    exact bodyPost_ret (v := .tuple #[.agg (sgCells sgZero), .bool false]) (results_sg2 (t := 10) (u := 11) rfl _ rfl qB17) rfl ⟨by rw [hV.out, hearCk_no (by first | rw [c1.out]; rfl | (rw [c1.out, ask_plain]; simp []))], G⟩
  · rw [c1] at h1
    replace c1 : Hid _ := c1
    by_cases c2 : s.fl = 2
    · replace c2 : Hid _ := c2
      by_cases c3 : 0 ≤ s.wn ∧ s.wn ≤ 65535
      · rw [decide_eq_true c3] at h3
        by_cases c4 : s.d = ByteArray.empty
        · have ht : (s.d.toList == ([] : List UInt8)) = true := by simp [c4, ByteArray.toList_eq]
          refine vR ?_
          refine vB ad_big qB2 rfl ?_
          refine vB ad_big qB5 rfl ?_
          refine vV (.int .i64 e) ?_
          refine vK (h1 _) ?_
          intro qw13 qg14
          replace qB2 := qB2.since qg14
          replace qB5 := qB5.since qg14
          replace qB8 := qB8.since qg14
          replace qB11 := qB11.since qg14
          replace G := G.trans qg14
          have qg14_s := qg14.size
          refine vV (.bool false) ?_
          refine vV (.bool false) ?_
          refine vV (.pointer (some ⟨qw4.heap.size, 4, none⟩)) ?_
          refine vD (.int .i64 s.fl) (qB8.cell 4) ?_
          refine vV (.bool false) ?_ (hrun := by simp [execOp, go_sem, c2.out])
          refine vV (.bool false) ?_
          refine vV (.bool false) ?_
          refine vV (.pointer (some ⟨qw4.heap.size, 5, none⟩)) ?_
          refine vD (.int .i64 s.wn) (qB8.cell 5) ?_
          refine vC (h3 _) ?_
          rintro _ _ ⟨rfl, rfl⟩
          refine ⟨_, rfl, ?_⟩
          refine vV (.bool false) ?_
          refine vV (.bool false) ?_
          refine vV (.bool false) ?_
          refine vV (.pointer (some ⟨qw4.heap.size, 7, none⟩)) ?_
          refine vD (.string s.d) (qB8.cell 7) ?_
          refine vV (.bool false) ?_ (hrun := by simp [execOp, go_sem, ht])
          refine vV (.bool false) ?_
          refine vE #[.int .u32 k0,.agg #[.int .u32 h, .int .i64 p],.agg #[.int .u32 j, .int .i64 q],.int .i64 e,.agg (sgCells s),U,.pointer (some ⟨w.heap.size, 0, none⟩),.pointer (some ⟨qw1.heap.size, 0, none⟩),U,.pointer (some ⟨qw4.heap.size, 0, none⟩),.pointer (some ⟨qw7.heap.size, 0, none⟩),.bool false,.agg #[.int .u32 h, .int .i64 p],.agg #[.int .u32 j, .int .i64 q],.int .i64 e,.bool true,.bool false,.bool false,.pointer (some ⟨qw4.heap.size, 4, none⟩),.int .i64 s.fl,.bool false,.bool false,.bool false,.pointer (some ⟨qw4.heap.size, 5, none⟩),.int .i64 s.wn,.bool true,.bool false,.bool false,.bool false,.pointer (some ⟨qw4.heap.size, 7, none⟩),.string s.d,.bool false,.bool false,U,U,U,U,U,U,U,U,U,U,U,U,U] ?_
          go_upto_region 3 with (fail)
          refine wp_region_tail (wb := qw13) 12 (fun i x v => match i with
              | 0 => v = .int .u32 k0
              | 1 => v = .agg #[.int .u32 h, .int .i64 p]
              | 2 => v = .agg #[.int .u32 j, .int .i64 q]
              | 3 => v = .int .i64 e
              | 4 => v = .pointer (some ⟨qw4.heap.size, 6, none⟩)
              | 5 => v = .int .i64 s.ms
              | 6 => v = .int .i64 (stepTo s.ms 8)
              | 7 => v = .int .u32 (ckOf k0 h p j q e (stepTo s.ms 8))
              | 8 => v = .pointer (some ⟨qw4.heap.size, 2, none⟩)
              | 9 => v = .int .u32 s.sq
              | 10 => v = .int .u32 ((s.sq + 1) % 4294967296)
              | 11 => v = .agg (sgCells (ansCk k0 h p j q e s))
              | _ => True) (fun v => { tmps := #[.int .u32 k0, .agg #[.int .u32 h, .int .i64 p], .agg #[.int .u32 j, .int .i64 q], .int .i64 e, .agg (sgCells s), undef, .pointer (some ⟨w.heap.size, 0, none⟩), .pointer (some ⟨qw1.heap.size, 0, none⟩), undef, .pointer (some ⟨qw4.heap.size, 0, none⟩), .pointer (some ⟨qw7.heap.size, 0, none⟩), .bool false, .agg #[.int .u32 h, .int .i64 p], .agg #[.int .u32 j, .int .i64 q], .int .i64 e, .bool true, .bool false, .bool false, .pointer (some ⟨qw4.heap.size, 4, none⟩), .int .i64 s.fl, .bool false, .bool false, .bool false, .pointer (some ⟨qw4.heap.size, 5, none⟩), .int .i64 s.wn, .bool true, .bool false, .bool false, .bool false, .pointer (some ⟨qw4.heap.size, 7, none⟩), .string s.d, .bool false, .bool false, undef, v 0, v 1, v 2, v 3, v 4, v 5, v 6, v 7, v 8, v 9, v 10, v 11], defers := [] }) (by kernel_rfl) (by kernel_rfl) (by kernel_rfl) (Since.refl _) ?_ (fun vals => by kernel_rfl) ?_ ?_
          case refine_1 =>
            intro j x x' v h1 h2
            match j, h2 with
            | 0, h2 | 1, h2 | 2, h2 | 3, h2 | 4, h2 | 5, h2 | 6, h2 | 7, h2 | 8, h2 | 9, h2 | 10, h2 | 11, h2 => exact h2
            | n + 12, _ => trivial
          case refine_2 =>
            repeat (first | exact eachDoes_nil | refine eachDoes_cons ?_ ?_)
            all_goals intro vals x hx hv
            all_goals simp [Region.binds] at hv
            · obtain ⟨h7, h10⟩ := hv
              exact does_valT (.agg (sgCells (ansCk k0 h p j q e s))) x (by simp only [h7, h10]; kernel_rfl) ⟨Since.refl _, rfl⟩
            · simp [does, doesUpon, go_sem, hv, IntKind.wrap_u32, Since.refl]
            · have fl0 : x.cell? ⟨qw4.heap.size, 2, none⟩ = some (.int .u32 s.sq) := (qB8.since hx).cell 2
              simp [does, doesUpon, go_sem, hv, fl0, Since.refl]
            · simp [does, doesUpon, go_sem, Since.refl]
            · simp [does, doesUpon, go_sem, hv]
              refine (hk _).mono ?_
              rintro _ x' ⟨rfl, h1⟩
              simp [h1]
            · simp [does, doesUpon, go_sem, hv]
              refine (hm _).mono ?_
              rintro _ x' ⟨rfl, h1⟩
              simp [h1]
            · have fl0 : x.cell? ⟨qw4.heap.size, 6, none⟩ = some (.int .i64 s.ms) := (qB8.since hx).cell 6
              simp [does, doesUpon, go_sem, hv, fl0, Since.refl]
            · simp [does, doesUpon, go_sem, Since.refl]
            · simp [does, doesUpon, go_sem, Since.refl]
            · exact does_load ad_big rfl (qB5.since hx) _ rfl rfl ⟨Since.refl _, rfl⟩
            · exact does_load ad_big rfl (qB2.since hx) _ rfl rfl ⟨Since.refl _, rfl⟩
            · simp [does, doesUpon, go_sem, Since.refl]
          case refine_3 =>
            intro qv17 qw15 qh16 hv
            have hv0 : qv17 0 = _ := hv 0 (by decide)
            have hv1 : qv17 1 = _ := hv 1 (by decide)
            have hv2 : qv17 2 = _ := hv 2 (by decide)
            have hv3 : qv17 3 = _ := hv 3 (by decide)
            have hv4 : qv17 4 = _ := hv 4 (by decide)
            have hv5 : qv17 5 = _ := hv 5 (by decide)
            have hv6 : qv17 6 = _ := hv 6 (by decide)
            have hv7 : qv17 7 = _ := hv 7 (by decide)
            have hv8 : qv17 8 = _ := hv 8 (by decide)
            have hv9 : qv17 9 = _ := hv 9 (by decide)
            have hv10 : qv17 10 = _ := hv 10 (by decide)
            have hv11 : qv17 11 = _ := hv 11 (by decide)
            clear hv
            simp only [hv0, hv1, hv2, hv3, hv4, hv5, hv6, hv7, hv8, hv9, hv10, hv11, List.drop]
            clear hv0 hv1 hv2 hv3 hv4 hv5 hv6 hv7 hv8 hv9 hv10 hv11
            replace qB2 := qB2.since qh16
            replace qB5 := qB5.since qh16
            replace qB8 := qB8.since qh16
            replace qB11 := qB11.since qh16
            replace G := G.trans qh16
            have qh16_s := qh16.size
            refine VL.out ?_
            refine sB (sgCells (ansCk k0 h p j q e s)) seg_big qB11 rfl rfl (seg_one _ _ _ _ _ _ _ _) ?_
            intro qw18 qt19 qB20
            clear qB11
            replace qB2 := qB2.touch qt19 (by omega)
            replace qB5 := qB5.touch qt19 (by omega)
            replace qB8 := qB8.touch qt19 (by omega)
            replace G := since_touch G qt19 (by omega)
            have qt19_s := qt19.size
            refine vV (.bool true) ?_
            refine vE #[.int .u32 k0,.agg #[.int .u32 h, .int .i64 p],.agg #[.int .u32 j, .int .i64 q],.int .i64 e,.agg (sgCells s),U,.pointer (some ⟨w.heap.size, 0, none⟩),.pointer (some ⟨qw1.heap.size, 0, none⟩),U,.pointer (some ⟨qw4.heap.size, 0, none⟩),.pointer (some ⟨qw7.heap.size, 0, none⟩),.bool true,.agg #[.int .u32 h, .int .i64 p],.agg #[.int .u32 j, .int .i64 q],.int .i64 e,.bool true,.bool false,.bool false,.pointer (some ⟨qw4.heap.size, 4, none⟩),.int .i64 s.fl,.bool false,.bool false,.bool false,.pointer (some ⟨qw4.heap.size, 5, none⟩),.int .i64 s.wn,.bool true,.bool false,.bool false,.bool false,.pointer (some ⟨qw4.heap.size, 7, none⟩),.string s.d,.bool false,.bool false,U,.int .u32 k0,.agg #[.int .u32 h, .int .i64 p],.agg #[.int .u32 j, .int .i64 q],.int .i64 e,.pointer (some ⟨qw4.heap.size, 6, none⟩),.int .i64 s.ms,.int .i64 (stepTo s.ms 8),.int .u32 (ckOf k0 h p j q e (stepTo s.ms 8)),.pointer (some ⟨qw4.heap.size, 2, none⟩),.int .u32 s.sq,.int .u32 ((s.sq + 1) % 4294967296),.agg (sgCells (ansCk k0 h p j q e s))] ?_
            go_wp2_with (fail)
            exact bodyPost_ret (v := .tuple #[.agg (sgCells (ansCk k0 h p j q e s)), .bool true]) (results_sg2 (t := 10) (u := 11) rfl _ rfl qB20) rfl ⟨by rw [hV.out, hearCk_yes (by rw [c1.out, ask_plain]; simp [c2.out, c3, c4])], G⟩
        · have ht := text_empty c4
          refine vR ?_
          refine vB ad_big qB2 rfl ?_
          refine vB ad_big qB5 rfl ?_
          refine vV (.int .i64 e) ?_
          refine vK (h1 _) ?_
          intro qw13 qg14
          replace qB2 := qB2.since qg14
          replace qB5 := qB5.since qg14
          replace qB8 := qB8.since qg14
          replace qB11 := qB11.since qg14
          replace G := G.trans qg14
          have qg14_s := qg14.size
          refine vV (.bool false) ?_
          refine vV (.bool false) ?_
          refine vV (.pointer (some ⟨qw4.heap.size, 4, none⟩)) ?_
          refine vD (.int .i64 s.fl) (qB8.cell 4) ?_
          refine vV (.bool false) ?_ (hrun := by simp [execOp, go_sem, c2.out])
          refine vV (.bool false) ?_
          refine vV (.bool false) ?_
          refine vV (.pointer (some ⟨qw4.heap.size, 5, none⟩)) ?_
          refine vD (.int .i64 s.wn) (qB8.cell 5) ?_
          refine vC (h3 _) ?_
          rintro _ _ ⟨rfl, rfl⟩
          refine ⟨_, rfl, ?_⟩
          refine vV (.bool false) ?_
          refine vV (.bool false) ?_
          refine vV (.bool false) ?_
          refine vV (.pointer (some ⟨qw4.heap.size, 7, none⟩)) ?_
          refine vD (.string s.d) (qB8.cell 7) ?_
          refine vV (.bool true) ?_ (hrun := by simp [execOp, go_sem, ht])
          refine vV (.bool true) ?_
          refine vE #[.int .u32 k0,.agg #[.int .u32 h, .int .i64 p],.agg #[.int .u32 j, .int .i64 q],.int .i64 e,.agg (sgCells s),U,.pointer (some ⟨w.heap.size, 0, none⟩),.pointer (some ⟨qw1.heap.size, 0, none⟩),U,.pointer (some ⟨qw4.heap.size, 0, none⟩),.pointer (some ⟨qw7.heap.size, 0, none⟩),.bool false,.agg #[.int .u32 h, .int .i64 p],.agg #[.int .u32 j, .int .i64 q],.int .i64 e,.bool true,.bool false,.bool false,.pointer (some ⟨qw4.heap.size, 4, none⟩),.int .i64 s.fl,.bool false,.bool false,.bool false,.pointer (some ⟨qw4.heap.size, 5, none⟩),.int .i64 s.wn,.bool true,.bool false,.bool false,.bool false,.pointer (some ⟨qw4.heap.size, 7, none⟩),.string s.d,.bool true,.bool true,U,U,U,U,U,U,U,U,U,U,U,U,U] ?_
          go_upto_region 2 with (fail)
          refine vR ?_
          refine vV (.agg (sgCells sgZero)) ?_
          refine sB (sgCells sgZero) seg_big qB11 rfl rfl (seg_one _ _ _ _ _ _ _ _) ?_
          intro qw15 qt16 qB17
          clear qB11
          replace qB2 := qB2.touch qt16 (by omega)
          replace qB5 := qB5.touch qt16 (by omega)
          replace qB8 := qB8.touch qt16 (by omega)
          replace G := since_touch G qt16 (by omega)
          have qt16_s := qt16.size
          refine vV (.bool false) ?_
          refine vE #[.int .u32 k0,.agg #[.int .u32 h, .int .i64 p],.agg #[.int .u32 j, .int .i64 q],.int .i64 e,.agg (sgCells s),U,.pointer (some ⟨w.heap.size, 0, none⟩),.pointer (some ⟨qw1.heap.size, 0, none⟩),U,.pointer (some ⟨qw4.heap.size, 0, none⟩),.pointer (some ⟨qw7.heap.size, 0, none⟩),.bool false,.agg #[.int .u32 h, .int .i64 p],.agg #[.int .u32 j, .int .i64 q],.int .i64 e,.bool true,.bool false,.bool false,.pointer (some ⟨qw4.heap.size, 4, none⟩),.int .i64 s.fl,.bool false,.bool false,.bool false,.pointer (some ⟨qw4.heap.size, 5, none⟩),.int .i64 s.wn,.bool true,.bool false,.bool false,.bool false,.pointer (some ⟨qw4.heap.size, 7, none⟩),.string s.d,.bool true,.bool true,.agg (sgCells sgZero),U,U,U,U,U,U,U,U,U,U,U,U] ?_
          go_wp2_with (fail)
          exact bodyPost_ret (v := .tuple #[.agg (sgCells sgZero), .bool false]) (results_sg2 (t := 10) (u := 11) rfl _ rfl qB17) rfl ⟨by rw [hV.out, hearCk_no (by first | rw [c1.out]; rfl | (rw [c1.out, ask_plain]; simp [c4]))], G⟩
      · rw [decide_eq_false c3] at h3
        refine vR ?_
        refine vB ad_big qB2 rfl ?_
        refine vB ad_big qB5 rfl ?_
        refine vV (.int .i64 e) ?_
        refine vK (h1 _) ?_
        intro qw13 qg14
        replace qB2 := qB2.since qg14
        replace qB5 := qB5.since qg14
        replace qB8 := qB8.since qg14
        replace qB11 := qB11.since qg14
        replace G := G.trans qg14
        have qg14_s := qg14.size
        refine vV (.bool false) ?_
        refine vV (.bool false) ?_
        refine vV (.pointer (some ⟨qw4.heap.size, 4, none⟩)) ?_
        refine vD (.int .i64 s.fl) (qB8.cell 4) ?_
        refine vV (.bool false) ?_ (hrun := by simp [execOp, go_sem, c2.out])
        refine vV (.bool false) ?_
        refine vV (.bool false) ?_
        refine vV (.pointer (some ⟨qw4.heap.size, 5, none⟩)) ?_
        refine vD (.int .i64 s.wn) (qB8.cell 5) ?_
        refine vC (h3 _) ?_
        rintro _ _ ⟨rfl, rfl⟩
        refine ⟨_, rfl, ?_⟩
        refine vV (.bool true) ?_
        refine vV (.bool true) ?_
        refine vV (.bool true) ?_
        refine vS ?_
        refine vS ?_
        refine vS ?_
        refine vV (.bool true) ?_
        refine vE #[.int .u32 k0,.agg #[.int .u32 h, .int .i64 p],.agg #[.int .u32 j, .int .i64 q],.int .i64 e,.agg (sgCells s),U,.pointer (some ⟨w.heap.size, 0, none⟩),.pointer (some ⟨qw1.heap.size, 0, none⟩),U,.pointer (some ⟨qw4.heap.size, 0, none⟩),.pointer (some ⟨qw7.heap.size, 0, none⟩),.bool false,.agg #[.int .u32 h, .int .i64 p],.agg #[.int .u32 j, .int .i64 q],.int .i64 e,.bool true,.bool false,.bool false,.pointer (some ⟨qw4.heap.size, 4, none⟩),.int .i64 s.fl,.bool false,.bool false,.bool false,.pointer (some ⟨qw4.heap.size, 5, none⟩),.int .i64 s.wn,.bool false,.bool true,.bool true,.bool true,U,U,U,.bool true,U,U,U,U,U,U,U,U,U,U,U,U,U] ?_
        go_upto_region 2 with (fail)
        refine vR ?_
        refine vV (.agg (sgCells sgZero)) ?_
        refine sB (sgCells sgZero) seg_big qB11 rfl rfl (seg_one _ _ _ _ _ _ _ _) ?_
        intro qw15 qt16 qB17
        clear qB11
        replace qB2 := qB2.touch qt16 (by omega)
        replace qB5 := qB5.touch qt16 (by omega)
        replace qB8 := qB8.touch qt16 (by omega)
        replace G := since_touch G qt16 (by omega)
        have qt16_s := qt16.size
        refine vV (.bool false) ?_
        refine vE #[.int .u32 k0,.agg #[.int .u32 h, .int .i64 p],.agg #[.int .u32 j, .int .i64 q],.int .i64 e,.agg (sgCells s),U,.pointer (some ⟨w.heap.size, 0, none⟩),.pointer (some ⟨qw1.heap.size, 0, none⟩),U,.pointer (some ⟨qw4.heap.size, 0, none⟩),.pointer (some ⟨qw7.heap.size, 0, none⟩),.bool false,.agg #[.int .u32 h, .int .i64 p],.agg #[.int .u32 j, .int .i64 q],.int .i64 e,.bool true,.bool false,.bool false,.pointer (some ⟨qw4.heap.size, 4, none⟩),.int .i64 s.fl,.bool false,.bool false,.bool false,.pointer (some ⟨qw4.heap.size, 5, none⟩),.int .i64 s.wn,.bool false,.bool true,.bool true,.bool true,U,U,U,.bool true,.agg (sgCells sgZero),U,U,U,U,U,U,U,U,U,U,U,U] ?_
        go_wp2_with (fail)
        exact bodyPost_ret (v := .tuple #[.agg (sgCells sgZero), .bool false]) (results_sg2 (t := 10) (u := 11) rfl _ rfl qB17) rfl ⟨by rw [hV.out, hearCk_no (by first | rw [c1.out]; rfl | (rw [c1.out, ask_plain]; simp [c3]))], G⟩
    · replace c2 : Hid _ := c2
      refine vR ?_
      refine vB ad_big qB2 rfl ?_
      refine vB ad_big qB5 rfl ?_
      refine vV (.int .i64 e) ?_
      refine vK (h1 _) ?_
      intro qw13 qg14
      replace qB2 := qB2.since qg14
      replace qB5 := qB5.since qg14
      replace qB8 := qB8.since qg14
      replace qB11 := qB11.since qg14
      replace G := G.trans qg14
      have qg14_s := qg14.size
      refine vV (.bool false) ?_
      refine vV (.bool false) ?_
      refine vV (.pointer (some ⟨qw4.heap.size, 4, none⟩)) ?_
      refine vD (.int .i64 s.fl) (qB8.cell 4) ?_
      refine vV (.bool true) ?_ (hrun := by simp [execOp, go_sem]; exact c2.out)
      refine vV (.bool true) ?_
      refine vV (.bool true) ?_
      refine vS ?_
      refine vS ?_
      refine vS ?_
      refine vS ?_
      refine vV (.bool true) ?_
      refine vV (.bool true) ?_
      refine vS ?_
      refine vS ?_
      refine vS ?_
      refine vV (.bool true) ?_
      refine vE #[.int .u32 k0,.agg #[.int .u32 h, .int .i64 p],.agg #[.int .u32 j, .int .i64 q],.int .i64 e,.agg (sgCells s),U,.pointer (some ⟨w.heap.size, 0, none⟩),.pointer (some ⟨qw1.heap.size, 0, none⟩),U,.pointer (some ⟨qw4.heap.size, 0, none⟩),.pointer (some ⟨qw7.heap.size, 0, none⟩),.bool false,.agg #[.int .u32 h, .int .i64 p],.agg #[.int .u32 j, .int .i64 q],.int .i64 e,.bool true,.bool false,.bool false,.pointer (some ⟨qw4.heap.size, 4, none⟩),.int .i64 s.fl,.bool true,.bool true,.bool true,U,U,U,U,.bool true,.bool true,U,U,U,.bool true,U,U,U,U,U,U,U,U,U,U,U,U,U] ?_
      go_upto_region 2 with (fail)
      refine vR ?_
      refine vV (.agg (sgCells sgZero)) ?_
      refine sB (sgCells sgZero) seg_big qB11 rfl rfl (seg_one _ _ _ _ _ _ _ _) ?_
      intro qw15 qt16 qB17
      clear qB11
      replace qB2 := qB2.touch qt16 (by omega)
      replace qB5 := qB5.touch qt16 (by omega)
      replace qB8 := qB8.touch qt16 (by omega)
      replace G := since_touch G qt16 (by omega)
      have qt16_s := qt16.size
      refine vV (.bool false) ?_
      refine vE #[.int .u32 k0,.agg #[.int .u32 h, .int .i64 p],.agg #[.int .u32 j, .int .i64 q],.int .i64 e,.agg (sgCells s),U,.pointer (some ⟨w.heap.size, 0, none⟩),.pointer (some ⟨qw1.heap.size, 0, none⟩),U,.pointer (some ⟨qw4.heap.size, 0, none⟩),.pointer (some ⟨qw7.heap.size, 0, none⟩),.bool false,.agg #[.int .u32 h, .int .i64 p],.agg #[.int .u32 j, .int .i64 q],.int .i64 e,.bool true,.bool false,.bool false,.pointer (some ⟨qw4.heap.size, 4, none⟩),.int .i64 s.fl,.bool true,.bool true,.bool true,U,U,U,U,.bool true,.bool true,U,U,U,.bool true,.agg (sgCells sgZero),U,U,U,U,U,U,U,U,U,U,U,U] ?_
      go_wp2_with (fail)
      exact bodyPost_ret (v := .tuple #[.agg (sgCells sgZero), .bool false]) (results_sg2 (t := 10) (u := 11) rfl _ rfl qB17) rfl ⟨by rw [hV.out, hearCk_no (by first | rw [c1.out]; rfl | (rw [c1.out, ask_plain]; simp [show ¬ s.fl = 2 from c2.out]))], G⟩

set_option maxRecDepth 20000 in
set_option maxHeartbeats 8000000 in
theorem implHearCk (k0 h p j q e : Int) (s : Sg) (hd : s.d.size ≤ 1048576) (w : World) (E : LaidM w) :
    Calls Tryd.prog 9 #[.int .u32 k0, addrVal h p, addrVal j q, .int .i64 e, .agg (sgCells s)] w fun f w' => f = .returned (hearCk k0 h p j q e s) ∧ Since w w' := by
  have h1 := fun wx => hasCookies h p j q e wx
  have ha := fun wx => asking s hd wx
  have hm := fun wx L => implMssStep s.ms wx L
  have hk := fun wx => implCookie k0 h p j q e (stepTo s.ms 8) wx
  have hE := E.lt
  obtain ⟨V, hV⟩ : ∃ V, Hid (V = hearCk k0 h p j q e s) := ⟨_, rfl⟩
  rw [← hV.out]
  have G := Since.refl w
  unfold addrVal at *
  go_enter Tryd.func9, Tryd.ntmps9
  go_upto_region 0 with (fail)
  refine vR ?_
  refine vW (w.alloc (.cells #[.int .u32 h, .int .i64 p] 31)) (.pointer (some ⟨w.heap.size, 0, none⟩)) ?_
  have qB2 := Blk.new w #[.int .u32 h, .int .i64 p] 31
  have qg3 := (Since.refl w).alloc (.cells #[.int .u32 h, .int .i64 p] 31)
  replace E := E.since qg3
  replace G := G.trans qg3
  generalize w.alloc (.cells #[.int .u32 h, .int .i64 p] 31) = qw1 at E G qB2 qg3 ⊢
  have qB2_l := qB2.lt
  have qg3_s := qg3.size
  refine vW (qw1.alloc (.cells #[.int .u32 j, .int .i64 q] 31)) (.pointer (some ⟨qw1.heap.size, 0, none⟩)) ?_
  have qB5 := Blk.new qw1 #[.int .u32 j, .int .i64 q] 31
  have qg6 := (Since.refl qw1).alloc (.cells #[.int .u32 j, .int .i64 q] 31)
  replace qB2 := qB2.since qg6
  replace E := E.since qg6
  replace G := G.trans qg6
  generalize qw1.alloc (.cells #[.int .u32 j, .int .i64 q] 31) = qw4 at qB2 E G qB5 qg6 ⊢
  have qB5_l := qB5.lt
  have qg6_s := qg6.size
  refine vW (qw4.alloc (.cells (sgCells s) 28)) (.pointer (some ⟨qw4.heap.size, 0, none⟩)) ?_
  have qB8 := Blk.new qw4 (sgCells s) 28
  have qg9 := (Since.refl qw4).alloc (.cells (sgCells s) 28)
  replace qB2 := qB2.since qg9
  replace qB5 := qB5.since qg9
  replace E := E.since qg9
  replace G := G.trans qg9
  generalize qw4.alloc (.cells (sgCells s) 28) = qw7 at qB2 qB5 E G qB8 qg9 ⊢
  have qB8_l := qB8.lt
  have qg9_s := qg9.size
  refine vW (qw7.alloc (.cells (sgCells sgZero) 28)) (.pointer (some ⟨qw7.heap.size, 0, none⟩)) ?_
  have qB11 := Blk.new qw7 (sgCells sgZero) 28
  have qg12 := (Since.refl qw7).alloc (.cells (sgCells sgZero) 28)
  replace qB2 := qB2.since qg12
  replace qB5 := qB5.since qg12
  replace qB8 := qB8.since qg12
  replace E := E.since qg12
  replace G := G.trans qg12
  generalize qw7.alloc (.cells (sgCells sgZero) 28) = qw10 at qB2 qB5 qB8 E G qB11 qg12 ⊢
  have qB11_l := qB11.lt
  have qg12_s := qg12.size
  refine vV (.bool false) ?_
  refine vE #[.int .u32 k0,.agg #[.int .u32 h, .int .i64 p],.agg #[.int .u32 j, .int .i64 q],.int .i64 e,.agg (sgCells s),U,.pointer (some ⟨w.heap.size, 0, none⟩),.pointer (some ⟨qw1.heap.size, 0, none⟩),U,.pointer (some ⟨qw4.heap.size, 0, none⟩),.pointer (some ⟨qw7.heap.size, 0, none⟩),.bool false,U,U,U,U,U,U,U,U,U,U,U,U,U,U,U,U,U,U,U,U,U,U,U] ?_
  go_upto_region 1 with (fail)
  cases c1 : ckOk p q e
  · rw [c1] at h1
    replace c1 : Hid _ := c1
    refine vR ?_
    refine vB ad_big qB2 rfl ?_
    refine vB ad_big qB5 rfl ?_
    refine vV (.int .i64 e) ?_
    refine vK (h1 _) ?_
    intro qw13 qg14
    replace qB2 := qB2.since qg14
    replace qB5 := qB5.since qg14
    replace qB8 := qB8.since qg14
    replace qB11 := qB11.since qg14
    replace E := E.since qg14
    replace G := G.trans qg14
    have qg14_s := qg14.size
    refine vV (.bool true) ?_
    refine vV (.bool true) ?_
    refine vS ?_
    refine vS ?_
    refine vS ?_
    refine vV (.bool true) ?_
    refine vE #[.int .u32 k0,.agg #[.int .u32 h, .int .i64 p],.agg #[.int .u32 j, .int .i64 q],.int .i64 e,.agg (sgCells s),U,.pointer (some ⟨w.heap.size, 0, none⟩),.pointer (some ⟨qw1.heap.size, 0, none⟩),U,.pointer (some ⟨qw4.heap.size, 0, none⟩),.pointer (some ⟨qw7.heap.size, 0, none⟩),.bool false,.agg #[.int .u32 h, .int .i64 p],.agg #[.int .u32 j, .int .i64 q],.int .i64 e,.bool false,.bool true,.bool true,U,U,U,.bool true,U,U,U,U,U,U,U,U,U,U,U,U,U] ?_
    go_upto_region 2 with (fail)
    refine vR ?_
    refine vV (.agg (sgCells sgZero)) ?_
    refine sB (sgCells sgZero) seg_big qB11 rfl rfl (seg_one _ _ _ _ _ _ _ _) ?_
    intro qw15 qt16 qB17
    clear qB11
    replace qB2 := qB2.touch qt16 (by omega)
    replace qB5 := qB5.touch qt16 (by omega)
    replace qB8 := qB8.touch qt16 (by omega)
    replace E := E.touch qt16 (by omega)
    replace G := since_touch G qt16 (by omega)
    have qt16_s := qt16.size
    refine vV (.bool false) ?_
    refine vE #[.int .u32 k0,.agg #[.int .u32 h, .int .i64 p],.agg #[.int .u32 j, .int .i64 q],.int .i64 e,.agg (sgCells s),U,.pointer (some ⟨w.heap.size, 0, none⟩),.pointer (some ⟨qw1.heap.size, 0, none⟩),U,.pointer (some ⟨qw4.heap.size, 0, none⟩),.pointer (some ⟨qw7.heap.size, 0, none⟩),.bool false,.agg #[.int .u32 h, .int .i64 p],.agg #[.int .u32 j, .int .i64 q],.int .i64 e,.bool false,.bool true,.bool true,U,U,U,.bool true,.agg (sgCells sgZero),U,U,U,U,U,U,U,U,U,U,U,U] ?_
    go_wp2_with (fail)
    exact bodyPost_ret (v := .tuple #[.agg (sgCells sgZero), .bool false]) (results_sg2 (t := 10) (u := 11) rfl _ rfl qB17) rfl ⟨by rw [hV.out, hearCk_no (by rw [c1.out]; rfl)], G⟩
  · rw [c1] at h1
    replace c1 : Hid _ := c1
    cases c2 : askOk s
    · rw [c2] at ha
      replace c2 : Hid _ := c2
      refine vR ?_
      refine vB ad_big qB2 rfl ?_
      refine vB ad_big qB5 rfl ?_
      refine vV (.int .i64 e) ?_
      refine vK (h1 _) ?_
      intro qw13 qg14
      replace qB2 := qB2.since qg14
      replace qB5 := qB5.since qg14
      replace qB8 := qB8.since qg14
      replace qB11 := qB11.since qg14
      replace E := E.since qg14
      replace G := G.trans qg14
      have qg14_s := qg14.size
      refine vV (.bool false) ?_
      refine vV (.bool false) ?_
      refine vB seg_big qB8 rfl ?_
      refine vC (ha _) ?_
      rintro _ qw15 ⟨⟨v, rfl, hfv⟩, qg16⟩
      refine ⟨_, rfl, ?_⟩
      replace qB2 := qB2.since qg16
      replace qB5 := qB5.since qg16
      replace qB8 := qB8.since qg16
      replace qB11 := qB11.since qg16
      replace E := E.since qg16
      replace G := G.trans qg16
      have qg16_s := qg16.size
      obtain ⟨t, rfl⟩ := hfv.2 rfl
      refine vV (.bool true) ?_
      refine vV (.bool true) ?_
      refine vE #[.int .u32 k0,.agg #[.int .u32 h, .int .i64 p],.agg #[.int .u32 j, .int .i64 q],.int .i64 e,.agg (sgCells s),U,.pointer (some ⟨w.heap.size, 0, none⟩),.pointer (some ⟨qw1.heap.size, 0, none⟩),U,.pointer (some ⟨qw4.heap.size, 0, none⟩),.pointer (some ⟨qw7.heap.size, 0, none⟩),.bool false,.agg #[.int .u32 h, .int .i64 p],.agg #[.int .u32 j, .int .i64 q],.int .i64 e,.bool true,.bool false,.bool false,.agg (sgCells s),.iface 75 (.agg (mfCells t false false false)),.bool true,.bool true,U,U,U,U,U,U,U,U,U,U,U,U,U] ?_
      go_upto_region 2 with (fail)
      refine vR ?_
      refine vV (.agg (sgCells sgZero)) ?_
      refine sB (sgCells sgZero) seg_big qB11 rfl rfl (seg_one _ _ _ _ _ _ _ _) ?_
      intro qw17 qt18 qB19
      clear qB11
      replace qB2 := qB2.touch qt18 (by omega)
      replace qB5 := qB5.touch qt18 (by omega)
      replace qB8 := qB8.touch qt18 (by omega)
      replace E := E.touch qt18 (by omega)
      replace G := since_touch G qt18 (by omega)
      have qt18_s := qt18.size
      refine vV (.bool false) ?_
      refine vE #[.int .u32 k0,.agg #[.int .u32 h, .int .i64 p],.agg #[.int .u32 j, .int .i64 q],.int .i64 e,.agg (sgCells s),U,.pointer (some ⟨w.heap.size, 0, none⟩),.pointer (some ⟨qw1.heap.size, 0, none⟩),U,.pointer (some ⟨qw4.heap.size, 0, none⟩),.pointer (some ⟨qw7.heap.size, 0, none⟩),.bool false,.agg #[.int .u32 h, .int .i64 p],.agg #[.int .u32 j, .int .i64 q],.int .i64 e,.bool true,.bool false,.bool false,.agg (sgCells s),.iface 75 (.agg (mfCells t false false false)),.bool true,.bool true,.agg (sgCells sgZero),U,U,U,U,U,U,U,U,U,U,U,U] ?_
      go_wp2_with (fail)
      exact bodyPost_ret (v := .tuple #[.agg (sgCells sgZero), .bool false]) (results_sg2 (t := 10) (u := 11) rfl _ rfl qB19) rfl ⟨by rw [hV.out, hearCk_no (by rw [c1.out, c2.out]; rfl)], G⟩
    · rw [c2] at ha
      replace c2 : Hid _ := c2
      refine vR ?_
      refine vB ad_big qB2 rfl ?_
      refine vB ad_big qB5 rfl ?_
      refine vV (.int .i64 e) ?_
      refine vK (h1 _) ?_
      intro qw13 qg14
      replace qB2 := qB2.since qg14
      replace qB5 := qB5.since qg14
      replace qB8 := qB8.since qg14
      replace qB11 := qB11.since qg14
      replace E := E.since qg14
      replace G := G.trans qg14
      have qg14_s := qg14.size
      refine vV (.bool false) ?_
      refine vV (.bool false) ?_
      refine vB seg_big qB8 rfl ?_
      refine vC (ha _) ?_
      rintro _ qw15 ⟨⟨v, rfl, hfv⟩, qg16⟩
      refine ⟨_, rfl, ?_⟩
      replace qB2 := qB2.since qg16
      replace qB5 := qB5.since qg16
      replace qB8 := qB8.since qg16
      replace qB11 := qB11.since qg16
      replace E := E.since qg16
      replace G := G.trans qg16
      have qg16_s := qg16.size
      obtain rfl := hfv.1 rfl
      refine vV (.bool false) ?_
      refine vV (.bool false) ?_
      refine vE #[.int .u32 k0,.agg #[.int .u32 h, .int .i64 p],.agg #[.int .u32 j, .int .i64 q],.int .i64 e,.agg (sgCells s),U,.pointer (some ⟨w.heap.size, 0, none⟩),.pointer (some ⟨qw1.heap.size, 0, none⟩),U,.pointer (some ⟨qw4.heap.size, 0, none⟩),.pointer (some ⟨qw7.heap.size, 0, none⟩),.bool false,.agg #[.int .u32 h, .int .i64 p],.agg #[.int .u32 j, .int .i64 q],.int .i64 e,.bool true,.bool false,.bool false,.agg (sgCells s),.nilIface,.bool false,.bool false,U,U,U,U,U,U,U,U,U,U,U,U,U] ?_
      go_upto_region 3 with (fail)
      refine wp_region_tail (wb := qw15) 12 (fun i x v => match i with
          | 0 => v = .int .u32 k0
          | 1 => v = .agg #[.int .u32 h, .int .i64 p]
          | 2 => v = .agg #[.int .u32 j, .int .i64 q]
          | 3 => v = .int .i64 e
          | 4 => v = .pointer (some ⟨qw4.heap.size, 6, none⟩)
          | 5 => v = .int .i64 s.ms
          | 6 => v = .int .i64 (stepTo s.ms 8)
          | 7 => v = .int .u32 (ckOf k0 h p j q e (stepTo s.ms 8))
          | 8 => v = .pointer (some ⟨qw4.heap.size, 2, none⟩)
          | 9 => v = .int .u32 s.sq
          | 10 => v = .int .u32 ((s.sq + 1) % 4294967296)
          | 11 => v = .agg (sgCells (ansCk k0 h p j q e s))
          | _ => True) (fun v => { tmps := #[.int .u32 k0, .agg #[.int .u32 h, .int .i64 p], .agg #[.int .u32 j, .int .i64 q], .int .i64 e, .agg (sgCells s), undef, .pointer (some ⟨w.heap.size, 0, none⟩), .pointer (some ⟨qw1.heap.size, 0, none⟩), undef, .pointer (some ⟨qw4.heap.size, 0, none⟩), .pointer (some ⟨qw7.heap.size, 0, none⟩), .bool false, .agg #[.int .u32 h, .int .i64 p], .agg #[.int .u32 j, .int .i64 q], .int .i64 e, .bool true, .bool false, .bool false, .agg (sgCells s), .nilIface, .bool false, .bool false, undef, v 0, v 1, v 2, v 3, v 4, v 5, v 6, v 7, v 8, v 9, v 10, v 11], defers := [] }) (by kernel_rfl) (by kernel_rfl) (by kernel_rfl) (Since.refl _) ?_ (fun vals => by kernel_rfl) ?_ ?_
      case refine_1 =>
        intro j x x' v h1 h2
        match j, h2 with
        | 0, h2 | 1, h2 | 2, h2 | 3, h2 | 4, h2 | 5, h2 | 6, h2 | 7, h2 | 8, h2 | 9, h2 | 10, h2 | 11, h2 => exact h2
        | n + 12, _ => trivial
      case refine_2 =>
        repeat (first | exact eachDoes_nil | refine eachDoes_cons ?_ ?_)
        all_goals intro vals x hx hv
        all_goals simp [Region.binds] at hv
        · obtain ⟨h7, h10⟩ := hv
          exact does_valT (.agg (sgCells (ansCk k0 h p j q e s))) x (by simp only [h7, h10]; kernel_rfl) ⟨Since.refl _, rfl⟩
        · simp [does, doesUpon, go_sem, hv, IntKind.wrap_u32, Since.refl]
        · have fl0 : x.cell? ⟨qw4.heap.size, 2, none⟩ = some (.int .u32 s.sq) := (qB8.since hx).cell 2
          simp [does, doesUpon, go_sem, hv, fl0, Since.refl]
        · simp [does, doesUpon, go_sem, Since.refl]
        · simp [does, doesUpon, go_sem, hv]
          refine (hk _).mono ?_
          rintro _ x' ⟨rfl, h1⟩
          simp [h1]
        · simp [does, doesUpon, go_sem, hv]
          refine (hm _ (E.since hx)).mono ?_
          rintro _ x' ⟨rfl, rfl⟩
          simp [Since.refl]
        · have fl0 : x.cell? ⟨qw4.heap.size, 6, none⟩ = some (.int .i64 s.ms) := (qB8.since hx).cell 6
          simp [does, doesUpon, go_sem, hv, fl0, Since.refl]
        · simp [does, doesUpon, go_sem, Since.refl]
        · simp [does, doesUpon, go_sem, Since.refl]
        · exact does_load ad_big rfl (qB5.since hx) _ rfl rfl ⟨Since.refl _, rfl⟩
        · exact does_load ad_big rfl (qB2.since hx) _ rfl rfl ⟨Since.refl _, rfl⟩
        · simp [does, doesUpon, go_sem, Since.refl]
      case refine_3 =>
        intro qv19 qw17 qh18 hv
        have hv0 : qv19 0 = _ := hv 0 (by decide)
        have hv1 : qv19 1 = _ := hv 1 (by decide)
        have hv2 : qv19 2 = _ := hv 2 (by decide)
        have hv3 : qv19 3 = _ := hv 3 (by decide)
        have hv4 : qv19 4 = _ := hv 4 (by decide)
        have hv5 : qv19 5 = _ := hv 5 (by decide)
        have hv6 : qv19 6 = _ := hv 6 (by decide)
        have hv7 : qv19 7 = _ := hv 7 (by decide)
        have hv8 : qv19 8 = _ := hv 8 (by decide)
        have hv9 : qv19 9 = _ := hv 9 (by decide)
        have hv10 : qv19 10 = _ := hv 10 (by decide)
        have hv11 : qv19 11 = _ := hv 11 (by decide)
        clear hv
        simp only [hv0, hv1, hv2, hv3, hv4, hv5, hv6, hv7, hv8, hv9, hv10, hv11, List.drop]
        clear hv0 hv1 hv2 hv3 hv4 hv5 hv6 hv7 hv8 hv9 hv10 hv11
        replace qB2 := qB2.since qh18
        replace qB5 := qB5.since qh18
        replace qB8 := qB8.since qh18
        replace qB11 := qB11.since qh18
        replace E := E.since qh18
        replace G := G.trans qh18
        have qh18_s := qh18.size
        refine VL.out ?_
        refine sB (sgCells (ansCk k0 h p j q e s)) seg_big qB11 rfl rfl (seg_one _ _ _ _ _ _ _ _) ?_
        intro qw20 qt21 qB22
        clear qB11
        replace qB2 := qB2.touch qt21 (by omega)
        replace qB5 := qB5.touch qt21 (by omega)
        replace qB8 := qB8.touch qt21 (by omega)
        replace E := E.touch qt21 (by omega)
        replace G := since_touch G qt21 (by omega)
        have qt21_s := qt21.size
        refine vV (.bool true) ?_
        refine vE #[.int .u32 k0,.agg #[.int .u32 h, .int .i64 p],.agg #[.int .u32 j, .int .i64 q],.int .i64 e,.agg (sgCells s),U,.pointer (some ⟨w.heap.size, 0, none⟩),.pointer (some ⟨qw1.heap.size, 0, none⟩),U,.pointer (some ⟨qw4.heap.size, 0, none⟩),.pointer (some ⟨qw7.heap.size, 0, none⟩),.bool true,.agg #[.int .u32 h, .int .i64 p],.agg #[.int .u32 j, .int .i64 q],.int .i64 e,.bool true,.bool false,.bool false,.agg (sgCells s),.nilIface,.bool false,.bool false,U,.int .u32 k0,.agg #[.int .u32 h, .int .i64 p],.agg #[.int .u32 j, .int .i64 q],.int .i64 e,.pointer (some ⟨qw4.heap.size, 6, none⟩),.int .i64 s.ms,.int .i64 (stepTo s.ms 8),.int .u32 (ckOf k0 h p j q e (stepTo s.ms 8)),.pointer (some ⟨qw4.heap.size, 2, none⟩),.int .u32 s.sq,.int .u32 ((s.sq + 1) % 4294967296),.agg (sgCells (ansCk k0 h p j q e s))] ?_
        go_wp2_with (fail)
        exact bodyPost_ret (v := .tuple #[.agg (sgCells (ansCk k0 h p j q e s)), .bool true]) (results_sg2 (t := 10) (u := 11) rfl _ rfl qB22) rfl ⟨by rw [hV.out, hearCk_yes (by rw [c1.out, c2.out]; rfl)], G⟩
end Go.Proofs.YtjilpicpfddbfabDoor
