/-
  impl's LineAt: a register filled anew and asked.
-/
import Derived.Test.YtpkenhcglnognaaLineAt17
import Derived.Test.YtpkenhcglnognaaTbOkJ
namespace Go.Proofs.Ytpkenhcglnognaa
open Go.ChangeShapes Go.WideShapes Go.ChangeAt Go.RowKit Go.Deep
set_option linter.unusedVariables false
set_option maxRecDepth 10000
set_option linter.unusedSimpArgs false

set_option maxRecDepth 20000 in
set_option maxHeartbeats 8000000 in
theorem implLineAt (t : Tb) (xs : List Ln) (pp : List (List (Int × ByteArray))) (m : Ln) (xa : Addr) (hla : t.la = some xa) (hlc : t.ln ≤ t.lc) (hn : NumL m) (hm : t.ln ≤ 1048576) (gc : ∀ i, i < t.ln → GoodC (lAt xs i).c (qAt pp i)) (hw : ∀ i, i < t.ln → NumL (lAt xs i)) (w : World) (hxl : xa.block < w.heap.size) (R : Rl w t.la t.ln xs pp) :
    Calls Try.prog 12 #[.agg (tbCells t), .agg #[.int .u32 m.hH, .int .i64 m.hP], .agg #[.int .u32 m.tH, .int .i64 m.tP]] w fun e w' => ∃ r, e = .returned (.int .i64 r) ∧ AtR t xs pp m r ∧ Since w w' := by
  go_enter Try.func12, Try.ntmps12
  have G := Since.refl w
  go_upto_region 0 with (fail)
  refine vR ?_
  refine vW (w.alloc (.cells (tbCells t) 30)) (.pointer (some ⟨w.heap.size, 0, none⟩)) ?_
  have qB2 := Blk.new w (tbCells t) 30
  have qg3 := (Since.refl w).alloc (.cells (tbCells t) 30)
  replace G := G.trans qg3
  generalize w.alloc (.cells (tbCells t) 30) = qw1 at  G qB2 qg3 ⊢
  have qB2_l := qB2.lt
  have qg3_s := qg3.size
  refine vW (qw1.alloc (.cells #[.int .u32 m.hH, .int .i64 m.hP] 37)) (.pointer (some ⟨qw1.heap.size, 0, none⟩)) ?_
  have qB5 := Blk.new qw1 #[.int .u32 m.hH, .int .i64 m.hP] 37
  have qg6 := (Since.refl qw1).alloc (.cells #[.int .u32 m.hH, .int .i64 m.hP] 37)
  replace qB2 := qB2.since qg6
  replace G := G.trans qg6
  generalize qw1.alloc (.cells #[.int .u32 m.hH, .int .i64 m.hP] 37) = qw4 at qB2 G qB5 qg6 ⊢
  have qB5_l := qB5.lt
  have qg6_s := qg6.size
  refine vW (qw4.alloc (.cells #[.int .u32 m.tH, .int .i64 m.tP] 37)) (.pointer (some ⟨qw4.heap.size, 0, none⟩)) ?_
  have qB8 := Blk.new qw4 #[.int .u32 m.tH, .int .i64 m.tP] 37
  have qg9 := (Since.refl qw4).alloc (.cells #[.int .u32 m.tH, .int .i64 m.tP] 37)
  replace qB2 := qB2.since qg9
  replace qB5 := qB5.since qg9
  replace G := G.trans qg9
  generalize qw4.alloc (.cells #[.int .u32 m.tH, .int .i64 m.tP] 37) = qw7 at qB2 qB5 G qB8 qg9 ⊢
  have qB8_l := qB8.lt
  have qg9_s := qg9.size
  refine vV (.int .i64 0) ?_
  refine vE #[.agg (tbCells t),.agg #[.int .u32 m.hH, .int .i64 m.hP],.agg #[.int .u32 m.tH, .int .i64 m.tP],.pointer (some ⟨w.heap.size, 0, none⟩),.pointer (some ⟨qw1.heap.size, 0, none⟩),.pointer (some ⟨qw4.heap.size, 0, none⟩),.int .i64 0,U,U,U,U,U,U,U,U,U,U,U,U,U,U] ?_
  go_upto_region 1 with (fail)
  obtain ⟨q, hq⟩ : ∃ q : Bool, q = true ↔ TableOk t xs pp := by
    by_cases h : TableOk t xs pp
    · exact ⟨true, by simp [h]⟩
    · exact ⟨false, by simp [h]⟩
  cases q
  · skip
    have hno : ¬ TableOk t xs pp := fun h => absurd (hq.2 h) (by decide)
    refine vR ?_
    refine vB tb_big qB2 rfl ?_
    refine vK (implTableOk t xs pp false hq hm hlc gc (fun i hi => (hw i hi).1) _ (R.since G)) ?_
    intro qw10 qg11
    replace qB2 := qB2.since qg11
    replace qB5 := qB5.since qg11
    replace qB8 := qB8.since qg11
    replace G := G.trans qg11
    have qg11_s := qg11.size
    refine vV (.bool true) ?_
    refine vE #[.agg (tbCells t),.agg #[.int .u32 m.hH, .int .i64 m.hP],.agg #[.int .u32 m.tH, .int .i64 m.tP],.pointer (some ⟨w.heap.size, 0, none⟩),.pointer (some ⟨qw1.heap.size, 0, none⟩),.pointer (some ⟨qw4.heap.size, 0, none⟩),.int .i64 0,U,.agg (tbCells t),.bool false,.bool true,U,U,U,U,U,U,U,U,U,U] ?_
    go_upto_region 2 with (fail)
    refine vR ?_
    refine vV (.int .i64 (-1)) ?_
    refine vE #[.agg (tbCells t),.agg #[.int .u32 m.hH, .int .i64 m.hP],.agg #[.int .u32 m.tH, .int .i64 m.tP],.pointer (some ⟨w.heap.size, 0, none⟩),.pointer (some ⟨qw1.heap.size, 0, none⟩),.pointer (some ⟨qw4.heap.size, 0, none⟩),.int .i64 (-1),U,.agg (tbCells t),.bool false,.bool true,U,U,U,U,U,U,U,U,U,U] ?_
    go_wp2_with (fail)
    go_ret
    exact ⟨-1, rfl, .inl ⟨hno, rfl⟩, G⟩
  · skip
    have hyes : TableOk t xs pp := hq.1 rfl
    refine vR ?_
    refine vB tb_big qB2 rfl ?_
    refine vK (implTableOk t xs pp true hq hm hlc gc (fun i hi => (hw i hi).1) _ (R.since G)) ?_
    intro qw10 qg11
    replace qB2 := qB2.since qg11
    replace qB5 := qB5.since qg11
    replace qB8 := qB8.since qg11
    replace G := G.trans qg11
    have qg11_s := qg11.size
    refine vV (.bool false) ?_
    refine vE #[.agg (tbCells t),.agg #[.int .u32 m.hH, .int .i64 m.hP],.agg #[.int .u32 m.tH, .int .i64 m.tP],.pointer (some ⟨w.heap.size, 0, none⟩),.pointer (some ⟨qw1.heap.size, 0, none⟩),.pointer (some ⟨qw4.heap.size, 0, none⟩),.int .i64 0,U,.agg (tbCells t),.bool true,.bool false,U,U,U,U,U,U,U,U,U,U] ?_
    go_upto_region 3 with (fail)
    refine vR ?_
    refine vW (qw10.alloc (.map #[] 0)) (.map (some qw10.heap.size)) ?_
    have M0 := IsRtMap.new qw10
    have k0 := (Since.refl qw10).alloc (.map #[] 0)
    replace qB2 := qB2.since k0
    replace qB5 := qB5.since k0
    replace qB8 := qB8.since k0
    replace G := G.trans k0
    generalize qw10.alloc (.map #[] 0) = wm at M0 k0 G qB2 qB5 qB8 ⊢
    have k0_s := k0.size
    have M0_l := M0.lt
    have G0_s := G.size
    refine vV (.map (some qw10.heap.size)) ?_
    refine vE #[.agg (tbCells t),.agg #[.int .u32 m.hH, .int .i64 m.hP],.agg #[.int .u32 m.tH, .int .i64 m.tP],.pointer (some ⟨w.heap.size, 0, none⟩),.pointer (some ⟨qw1.heap.size, 0, none⟩),.pointer (some ⟨qw4.heap.size, 0, none⟩),.int .i64 0,.map (some qw10.heap.size),.agg (tbCells t),.bool true,.bool false,.map (some qw10.heap.size),U,U,U,U,U,U,U,U,U] ?_
    go_upto_region 4 with (fail)
    refine vR ?_
    refine vV (.map (some qw10.heap.size)) ?_
    refine vV (.pointer (some ⟨w.heap.size, 5, none⟩)) ?_
    refine vD (.slice (some xa) t.ln t.lc) ((qB2.cell 5).trans (by show some (.slice t.la t.ln t.lc : Value) = _; rw [hla])) ?_
    refine vC (fillP qw10.heap.size xa t.ln t.lc xs hm hw _ M0 (fun x e => by cases e; have := hxl; omega) (show Rd shL wm (some xa) t.ln xs from hla ▸ (R.since G).rd)) ?_
    rintro _ wf ⟨rfl, M, tf⟩
    refine ⟨_, rfl, ?_⟩
    clear M0
    replace qB2 := qB2.touch tf (by omega)
    replace qB5 := qB5.touch tf (by omega)
    replace qB8 := qB8.touch tf (by omega)
    replace G := since_touch G tf (by omega)
    have tf_s := tf.size
    refine vE #[.agg (tbCells t),.agg #[.int .u32 m.hH, .int .i64 m.hP],.agg #[.int .u32 m.tH, .int .i64 m.tP],.pointer (some ⟨w.heap.size, 0, none⟩),.pointer (some ⟨qw1.heap.size, 0, none⟩),.pointer (some ⟨qw4.heap.size, 0, none⟩),.int .i64 0,.map (some qw10.heap.size),.agg (tbCells t),.bool true,.bool false,.map (some qw10.heap.size),.map (some qw10.heap.size),.pointer (some ⟨w.heap.size, 5, none⟩),.slice (some xa) t.ln t.lc,.tuple #[],U,U,U,U,U] ?_
    go_upto_region 5 with (fail)
    refine vR ?_
    refine vV (.map (some qw10.heap.size)) ?_
    refine vB ad_big qB5 rfl ?_
    refine vB ad_big qB8 rfl ?_
    refine vK (routeOf m.hH m.hP m.tH m.tP hn.1.1 hn.1.2 _) ?_
    intro qw12 qg13
    replace qB2 := qB2.since qg13
    replace qB5 := qB5.since qg13
    replace qB8 := qB8.since qg13
    replace M := M.since qg13
    replace G := G.trans qg13
    have qg13_s := qg13.size
    refine vC (placeOf _ t.ln xs m hn.rt _ M) ?_
    rintro _ qw14 ⟨r, rfl, hf, qg15⟩
    refine ⟨_, rfl, ?_⟩
    replace qB2 := qB2.since qg15
    replace qB5 := qB5.since qg15
    replace qB8 := qB8.since qg15
    replace M := M.since qg15
    replace G := G.trans qg15
    have qg15_s := qg15.size
    replace hf : Hid (FindR xs t.ln m r) := hf
    refine vV (.int .i64 r) ?_
    refine vE #[.agg (tbCells t),.agg #[.int .u32 m.hH, .int .i64 m.hP],.agg #[.int .u32 m.tH, .int .i64 m.tP],.pointer (some ⟨w.heap.size, 0, none⟩),.pointer (some ⟨qw1.heap.size, 0, none⟩),.pointer (some ⟨qw4.heap.size, 0, none⟩),.int .i64 r,.map (some qw10.heap.size),.agg (tbCells t),.bool true,.bool false,.map (some qw10.heap.size),.map (some qw10.heap.size),.pointer (some ⟨w.heap.size, 5, none⟩),.slice (some xa) t.ln t.lc,.tuple #[],.map (some qw10.heap.size),.agg #[.int .u32 m.hH, .int .i64 m.hP],.agg #[.int .u32 m.tH, .int .i64 m.tP],.agg #[.int .i64 m.hH, .int .i64 m.hP, .int .i64 m.tH, .int .i64 m.tP],.int .i64 r] ?_
    go_wp2_with (fail)
    go_ret
    exact ⟨r, rfl, .inr ⟨hyes, hf.out⟩, G⟩
end Go.Proofs.Ytpkenhcglnognaa
