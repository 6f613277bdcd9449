/-
  An end that must try once more, as impl does it.
-/
import Derived.Test.YtfenlfijfjcdbaaGreatM7
import Derived.Test.YtfenlfijfjcdbaaGreatM22
import Derived.Test.YtfenlfijfjcdbaaGreatM20
import Derived.Deep.DeepCutAuto
namespace Go.Proofs.YtfenlfijfjcdbaaGreat
open Go.ChangeShapes Go.WideShapes Go.ChangeAt Go.RowKit
set_option linter.unusedVariables false
set_option maxRecDepth 10000

set_option maxRecDepth 20000 in
set_option maxHeartbeats 8000000 in
theorem implTryAgain (B g pg : Nat) (now : Int) (ps : List (Int × ByteArray)) (d : Cn) (gs n cap : Nat) (xs : List Sg) (h0 : 0 ≤ now) (h1 : now ≤ 1000000000) (hn : n ≤ 200000) (hx : xs.length ≤ 40000) (ok : TickOk d ps) (w : World) (a : Acts B g pg now ps d gs n cap xs w) :
    Calls Tryz.prog 69 #[.pointer (some ⟨g, 0, none⟩)] w fun e w' => e = .returned (.tuple #[]) ∧ ActsX B g pg now ps ((againX ps now d xs).1) ((againX ps now d xs).2) w' ∧ Base B w w' := by
  obtain ⟨A, L, P, pa, lo, i, j, l⟩ := a
  have hA := A.lt
  have hL := L.lt
  have hLo := L.low'
  have hP := P.lt
  have hPo := P.low'
  have G : Base B w w := Base.refl (by omega)
  obtain ⟨bT, hbT⟩ : ∃ q, Hid (q = (d.trs == 10)) := ⟨_, rfl⟩
  go_enter Tryz.func69, Tryz.ntmps69
  go_upto_region 1 with (fail)
  cases bT
  case true =>
    refine vR ?_
    refine vV (.pointer (some ⟨g, 0, none⟩)) ?_
    refine vV (.pointer (some ⟨g, 0, none⟩)) ?_
    refine vV (.pointer (some ⟨g, 34, none⟩)) ?_
    refine vD (.int .i64 d.trs) (A.cell 34) ?_
    refine vV (.bool true) ?_ (hrun := by rw [show true = (d.trs == 10) from hbT.out]; kernel_rfl)
    refine vE #[.pointer (some ⟨g, 0, none⟩),U,.pointer (some ⟨g, 0, none⟩),U,.pointer (some ⟨g, 0, none⟩),.pointer (some ⟨g, 0, none⟩),.pointer (some ⟨g, 0, none⟩),.pointer (some ⟨g, 0, none⟩),.pointer (some ⟨g, 0, none⟩),.pointer (some ⟨g, 34, none⟩),.int .i64 d.trs,.bool true,U,U,U,U,U,U,U,U,U,U,U,U,U,U,U,U,U,U,U,U,U,U,U,U,U,U,U,U,U,U,U,U,U,U,U,U,U,U,U,U,U,U,U,U,U,U,U,U,U,U,U,U,U,U,U,U,U,U,U,U] ?_
    go_upto_region 2 with (fail)
    refine vR ?_
    refine vV (.pointer (some ⟨g, 0, none⟩)) ?_
    refine vC (implFinish _ _ _ _ _ _ _ _ _ _ 3 _ ⟨A, L, P, pa, lo, (by omega), (by omega), (by omega)⟩) ?_
    rintro _ qw1 ⟨rfl, ⟨gsqk3, nqk3, cqk3, ⟨Aqk3, Lqk3, Pqk3, paqk3, loqk3, iqk3, jqk3, lqk3⟩⟩, qh2⟩
    refine ⟨_, rfl, ?_⟩
    clear A L P
    replace G := G.base qh2
    have qh2_s := qh2.size
    have Aqk3_l := Aqk3.lt
    have Lqk3_l := Lqk3.lt
    have Lqk3_o := Lqk3.low'
    have Pqk3_l := Pqk3.lt
    refine vE #[.pointer (some ⟨g, 0, none⟩),U,.pointer (some ⟨g, 0, none⟩),U,.pointer (some ⟨g, 0, none⟩),.pointer (some ⟨g, 0, none⟩),.pointer (some ⟨g, 0, none⟩),.pointer (some ⟨g, 0, none⟩),.pointer (some ⟨g, 0, none⟩),.pointer (some ⟨g, 34, none⟩),.int .i64 d.trs,.bool true,.pointer (some ⟨g, 0, none⟩),.tuple #[],U,U,U,U,U,U,U,U,U,U,U,U,U,U,U,U,U,U,U,U,U,U,U,U,U,U,U,U,U,U,U,U,U,U,U,U,U,U,U,U,U,U,U,U,U,U,U,U,U,U,U,U,U,U,U,U,U,U] ?_
    have hX : againX ps now d xs = (endC d 3, xs) := by
      unfold againX
      rw [if_pos (by simpa using hbT.out.symm)]
    go_wp2_with (fail)
    refine bodyPost_ret (v := .tuple #[]) (results_none rfl _ _ _) rfl ⟨rfl, ?_, G⟩
    rw [hX]
    exact ⟨_, _, _, ⟨Aqk3, Lqk3, Pqk3, paqk3, loqk3, (by omega), (by omega), (by omega)⟩⟩
  case false =>
    have htr : ¬ d.trs = 10 := by simpa using hbT.out.symm
    have hX : Hid (againX ps now d xs = if d.st = 1 ∨ d.st = 2 then (triedC d now, xs ++ [synSg (triedC d now) ps]) else backX ps now (triedC d now) xs) := if_neg htr
    have hwr : Hid (IntKind.i64.wrap (d.trs + 1) = d.trs + 1) := by
      have := ok.tr
      show _ = _
      rw [IntWalk.i64_left]
      exact IntWalk.wrap64_in _ ⟨by omega, by omega⟩
    have hbk := fun wx => implBack d.rA d.rS d.rV d.rD wx
    rw [ok.rt, if_pos rfl] at hbk
    unfold rttVal at hbk
    obtain ⟨rd, hrd⟩ : ∃ q, Hid (q = min (d.rD + 1) 8) := ⟨_, rfl⟩
    rw [← hrd.out] at hbk
    have huw := fun wx => implUnderWay { d with trs := d.trs + 1 } ok.w_una ok.w_mx wx
    rw [show uwN { d with trs := d.trs + 1 } = uwN d from rfl] at huw
    have hub : 0 ≤ uwN d ∧ uwN d ≤ 8000 := by
      have := ok.um
      unfold uwN
      omega
    have hlo := fun wx => implLost d.cX d.cT d.cD d.cF d.cR (uwN d) wx
    unfold lostOf at hlo
    rw [ok.cg, decide_eq_true hub] at hlo
    rw [show (if (true && true) = true then congVal 100 (max (uwN d / 2) 200) 0 false 0 else congVal d.cX d.cT d.cD d.cF d.cR) = congVal 100 (max (uwN d / 2) 200) 0 false 0 from rfl] at hlo
    unfold congVal at hlo
    obtain ⟨ct, hct⟩ : ∃ q, Hid (q = max (uwN d / 2) 200) := ⟨_, rfl⟩
    rw [← hct.out] at hlo
    have htC : Hid (triedC d now = { d with trs := d.trs + 1, rD := rd, cX := 100, cT := ct, cD := 0, cF := false, cR := 0, tmg := false, agn := now + waitOf d.rA d.rS d.rV rd }) := by
      show triedC d now = _
      unfold triedC
      rw [hrd.out, hct.out]
    generalize uwN d = uw at huw hlo
    clear hub hct htr
    have hfn := fun (dd : Cn) sv' wx Ax => implFromNow g now dd sv' h0 h1 wx Ax
    have ms := mayS_tried ok now
    rw [htC.out] at ms
    refine vR ?_
    refine vV (.pointer (some ⟨g, 0, none⟩)) ?_
    refine vV (.pointer (some ⟨g, 0, none⟩)) ?_
    refine vV (.pointer (some ⟨g, 34, none⟩)) ?_
    refine vD (.int .i64 d.trs) (A.cell 34) ?_
    refine vV (.bool false) ?_ (hrun := by rw [show false = (d.trs == 10) from hbT.out]; kernel_rfl)
    refine vE #[.pointer (some ⟨g, 0, none⟩),U,.pointer (some ⟨g, 0, none⟩),U,.pointer (some ⟨g, 0, none⟩),.pointer (some ⟨g, 0, none⟩),.pointer (some ⟨g, 0, none⟩),.pointer (some ⟨g, 0, none⟩),.pointer (some ⟨g, 0, none⟩),.pointer (some ⟨g, 34, none⟩),.int .i64 d.trs,.bool false,U,U,U,U,U,U,U,U,U,U,U,U,U,U,U,U,U,U,U,U,U,U,U,U,U,U,U,U,U,U,U,U,U,U,U,U,U,U,U,U,U,U,U,U,U,U,U,U,U,U,U,U,U,U,U,U,U,U,U,U] ?_
    go_upto_region 3 with (fail)
    refine vR ?_
    refine vV (.pointer (some ⟨g, 0, none⟩)) ?_
    refine vV (.pointer (some ⟨g, 0, none⟩)) ?_
    refine vV (.pointer (some ⟨g, 34, none⟩)) ?_
    refine vD (.int .i64 d.trs) (A.cell 34) ?_
    refine vV (.int .i64 (d.trs + 1)) ?_ (hrun := by rw [← hwr.out]; kernel_rfl)
    refine vV (.pointer (some ⟨g, 0, none⟩)) ?_
    refine vV (.pointer (some ⟨g, 34, none⟩)) ?_
    refine sC (actCells { d with trs := (d.trs + 1) } now (.slice (some ⟨gs, 0, none⟩) n cap)) A 34 (.int .i64 (d.trs + 1)) (act_size _ _ _) ?_
    intro qw1 qt2 qB3
    clear A
    replace L := L.touch qt2 (by omega)
    replace P := P.touch qt2 (by omega)
    replace G := G.touch qt2 (by omega)
    have qt2_s := qt2.size
    refine vE #[.pointer (some ⟨g, 0, none⟩),U,.pointer (some ⟨g, 0, none⟩),U,.pointer (some ⟨g, 0, none⟩),.pointer (some ⟨g, 0, none⟩),.pointer (some ⟨g, 0, none⟩),.pointer (some ⟨g, 0, none⟩),.pointer (some ⟨g, 0, none⟩),.pointer (some ⟨g, 34, none⟩),.int .i64 d.trs,.bool false,U,U,.pointer (some ⟨g, 0, none⟩),.pointer (some ⟨g, 0, none⟩),.pointer (some ⟨g, 34, none⟩),.int .i64 d.trs,.int .i64 (d.trs + 1),.pointer (some ⟨g, 0, none⟩),.pointer (some ⟨g, 34, none⟩),U,U,U,U,U,U,U,U,U,U,U,U,U,U,U,U,U,U,U,U,U,U,U,U,U,U,U,U,U,U,U,U,U,U,U,U,U,U,U,U,U,U,U,U,U,U,U,U,U,U,U] ?_
    go_upto_region 4 with (fail)
    have I0 : Blk g qw1 (actCells { d with trs := (d.trs + 1) } now (.slice (some ⟨gs, 0, none⟩) n cap)) := qB3
    refine wp_region_done (fun i v => match i with
        | 0 => v = .pointer (some ⟨g, 0, none⟩)
        | 1 => v = .pointer (some ⟨g, 0, none⟩)
        | 2 => v = .pointer (some ⟨g, 0, none⟩)
        | 3 => v = .pointer (some ⟨g, 0, none⟩)
        | 4 => v = .pointer (some ⟨g, 0, none⟩)
        | 5 => v = .pointer (some ⟨g, 19, none⟩)
        | 6 => v = .agg #[.bool d.rA, .int .i64 d.rS, .int .i64 d.rV, .int .i64 d.rD]
        | 7 => v = .agg #[.bool d.rA, .int .i64 d.rS, .int .i64 d.rV, .int .i64 rd]
        | 8 => v = .pointer (some ⟨g, 0, none⟩)
        | 9 => v = .pointer (some ⟨g, 0, none⟩)
        | 10 => v = .pointer (some ⟨g, 23, none⟩)
        | 11 => v = .agg #[.int .i64 d.cX, .int .i64 d.cT, .int .i64 d.cD, .bool d.cF, .int .u32 d.cR]
        | 12 => v = .pointer (some ⟨g, 0, none⟩)
        | 13 => v = .pointer (some ⟨g, 0, none⟩)
        | 14 => v = .agg (cnCells { d with trs := (d.trs + 1) })
        | 15 => v = .int .i64 uw
        | 16 => v = .agg #[.int .i64 100, .int .i64 ct, .int .i64 0, .bool false, .int .u32 0]
        | 17 => v = .pointer (some ⟨g, 0, none⟩)
        | 18 => v = .pointer (some ⟨g, 19, none⟩)
        | 20 => v = .pointer (some ⟨g, 0, none⟩)
        | 21 => v = .pointer (some ⟨g, 23, none⟩)
        | 23 => v = .pointer (some ⟨g, 0, none⟩)
        | 24 => v = .pointer (some ⟨g, 28, none⟩)
        | _ => True) (fun f x => TryI g { d with trs := (d.trs + 1) } rd ct now (.slice (some ⟨gs, 0, none⟩) n cap) qw1 f x) (fun v => { tmps := #[.pointer (some ⟨g, 0, none⟩), undef, .pointer (some ⟨g, 0, none⟩), undef, .pointer (some ⟨g, 0, none⟩), .pointer (some ⟨g, 0, none⟩), .pointer (some ⟨g, 0, none⟩), .pointer (some ⟨g, 0, none⟩), .pointer (some ⟨g, 0, none⟩), .pointer (some ⟨g, 34, none⟩), .int .i64 d.trs, .bool false, undef, undef, .pointer (some ⟨g, 0, none⟩), .pointer (some ⟨g, 0, none⟩), .pointer (some ⟨g, 34, none⟩), .int .i64 d.trs, .int .i64 (d.trs + 1), .pointer (some ⟨g, 0, none⟩), .pointer (some ⟨g, 34, none⟩), v 0, v 1, v 2, v 3, v 4, v 5, v 6, v 7, v 8, v 9, v 10, v 11, v 12, v 13, v 14, v 15, v 16, v 17, v 18, v 20, v 21, v 23, v 24, undef, undef, undef, undef, undef, undef, undef, undef, undef, undef, undef, undef, undef, undef, undef, undef, undef, undef, undef, undef, undef, undef, undef, undef, undef, undef, undef, undef], defers := [] }) (by kernel_rfl) (by kernel_rfl) ?_ (fun vals => by kernel_rfl) ?_ ?_
    case refine_1 =>
      intro f hf
      refine ⟨Touch.of_since ((Since.refl _).drew) g, ?_, ?_⟩
      · rw [hf 19, hf 22, hf 25]
        intro q
        simp at q
      · rw [hf 19, hf 22, hf 25]
        exact I0.since ((Since.refl _).drew)
    case refine_2 =>
      repeat (first | exact eachDone_nil | refine eachDone_cons ?_ ?_)
      all_goals intro f vals x hf hr hI hV
      all_goals simp [Region.binds] at hr
      · have e24 : vals 24 = .pointer (some ⟨g, 28, none⟩) := hV 24 (by simp [hr])
        have q6 : f 6 = true := by simp [hr]
        have q11 : f 11 = true := by simp [hr]
        have q14 : f 14 = true := by simp [hr]
        refine does_cell_store (cs' := actCells (tryD { d with trs := (d.trs + 1) } rd ct (f 19) (f 22) true) now (.slice (some ⟨gs, 0, none⟩) n cap)) hI.blk _ _ _ rfl 28 e24 (.bool false) rfl rfl (by kernel_rfl) (by rw [act_size]; decide) rfl ?_
        intro z tz Bz
        exact ⟨hI.put25 q6 q11 q14 tz Bz, trivial⟩
      · have e23 : vals 23 = .pointer (some ⟨g, 0, none⟩) := hV 23 (by simp [hr])
        simp [does, doesUpon, go_sem, e23]
        exact hI.skip 24 (by decide) (by decide) (by decide)
      · have e2 : vals 2 = .pointer (some ⟨g, 0, none⟩) := hV 2 (by simp [hr])
        simp [does, doesUpon, go_sem, e2]
        exact hI.skip 23 (by decide) (by decide) (by decide)
      · have e16 : vals 16 = .agg #[.int .i64 100, .int .i64 ct, .int .i64 0, .bool false, .int .u32 0] := hV 16 (by simp [hr])
        have e21 : vals 21 = .pointer (some ⟨g, 23, none⟩) := hV 21 (by simp [hr])
        have q6 : f 6 = true := by simp [hr]
        have q11 : f 11 = true := by simp [hr]
        have q14 : f 14 = true := by simp [hr]
        refine does_part_store (cs' := actCells (tryD { d with trs := (d.trs + 1) } rd ct (f 19) true (f 25)) now (.slice (some ⟨gs, 0, none⟩) n cap)) hI.blk pCong_big _ _ rfl 23 e21 #[.int .i64 100, .int .i64 ct, .int .i64 0, .bool false, .int .u32 0] e16 rfl (by simp [Value.oneCell']) (by rw [act_size]; decide) rfl ?_
        intro z tz Bz
        exact ⟨hI.put22 q6 q11 q14 tz Bz, trivial⟩
      · have e20 : vals 20 = .pointer (some ⟨g, 0, none⟩) := hV 20 (by simp [hr])
        simp [does, doesUpon, go_sem, e20]
        exact hI.skip 21 (by decide) (by decide) (by decide)
      · have e1 : vals 1 = .pointer (some ⟨g, 0, none⟩) := hV 1 (by simp [hr])
        simp [does, doesUpon, go_sem, e1]
        exact hI.skip 20 (by decide) (by decide) (by decide)
      · have e7 : vals 7 = .agg #[.bool d.rA, .int .i64 d.rS, .int .i64 d.rV, .int .i64 rd] := hV 7 (by simp [hr])
        have e18 : vals 18 = .pointer (some ⟨g, 19, none⟩) := hV 18 (by simp [hr])
        have q6 : f 6 = true := by simp [hr]
        have q11 : f 11 = true := by simp [hr]
        have q14 : f 14 = true := by simp [hr]
        refine does_part_store (cs' := actCells (tryD { d with trs := (d.trs + 1) } rd ct true (f 22) (f 25)) now (.slice (some ⟨gs, 0, none⟩) n cap)) hI.blk pRtt_big _ _ rfl 19 e18 #[.bool d.rA, .int .i64 d.rS, .int .i64 d.rV, .int .i64 rd] e7 rfl (by simp [Value.oneCell']) (by rw [act_size]; decide) rfl ?_
        intro z tz Bz
        exact ⟨hI.put19 q6 q11 q14 tz Bz, trivial⟩
      · have e17 : vals 17 = .pointer (some ⟨g, 0, none⟩) := hV 17 (by simp [hr])
        simp [does, doesUpon, go_sem, e17]
        exact hI.skip 18 (by decide) (by decide) (by decide)
      · have e0 : vals 0 = .pointer (some ⟨g, 0, none⟩) := hV 0 (by simp [hr])
        simp [does, doesUpon, go_sem, e0]
        exact hI.skip 17 (by decide) (by decide) (by decide)
      · have e11 : vals 11 = .agg #[.int .i64 d.cX, .int .i64 d.cT, .int .i64 d.cD, .bool d.cF, .int .u32 d.cR] := hV 11 (by simp [hr])
        have e15 : vals 15 = .int .i64 uw := hV 15 (by simp [hr])
        simp [does, doesUpon, go_sem, e11, e15]
        refine (hlo x).mono ?_
        rintro _ x' ⟨rfl, h1⟩
        simp
        exact (hI.since h1).skip 16 (by decide) (by decide) (by decide)
      · have e14 : vals 14 = .agg (cnCells { d with trs := (d.trs + 1) }) := hV 14 (by simp [hr])
        simp [does, doesUpon, go_sem, e14]
        refine (huw x).mono ?_
        rintro _ x' ⟨rfl, h1⟩
        simp
        exact (hI.since h1).skip 15 (by decide) (by decide) (by decide)
      · have e13 : vals 13 = .pointer (some ⟨g, 0, none⟩) := hV 13 (by simp [hr])
        have B0 := hI.old (.inr (.inr hf))
        exact does_end B0 _ rfl e13 ⟨hI.skip 14 (by decide) (by decide) (by decide), rfl⟩
      · have e12 : vals 12 = .pointer (some ⟨g, 0, none⟩) := hV 12 (by simp [hr])
        simp [does, doesUpon, go_sem, e12]
        exact hI.skip 13 (by decide) (by decide) (by decide)
      · simp [does, doesUpon, go_sem]
        exact hI.skip 12 (by decide) (by decide) (by decide)
      · have e10 : vals 10 = .pointer (some ⟨g, 23, none⟩) := hV 10 (by simp [hr])
        have B0 := hI.old (.inr (.inl hf))
        exact does_part_load B0 pCong_big _ rfl 23 e10 [.int .i64 d.cX, .int .i64 d.cT, .int .i64 d.cD, .bool d.cF, .int .u32 d.cR] rfl (fun j v hj => by match j, hj with | 0, h => exact h | 1, h => exact h | 2, h => exact h | 3, h => exact h | 4, h => exact h | n + 5, h => exact absurd h (by simp)) ⟨hI.skip 11 (by decide) (by decide) (by decide), rfl⟩
      · have e9 : vals 9 = .pointer (some ⟨g, 0, none⟩) := hV 9 (by simp [hr])
        simp [does, doesUpon, go_sem, e9]
        exact hI.skip 10 (by decide) (by decide) (by decide)
      · have e8 : vals 8 = .pointer (some ⟨g, 0, none⟩) := hV 8 (by simp [hr])
        simp [does, doesUpon, go_sem, e8]
        exact hI.skip 9 (by decide) (by decide) (by decide)
      · simp [does, doesUpon, go_sem]
        exact hI.skip 8 (by decide) (by decide) (by decide)
      · have e6 : vals 6 = .agg #[.bool d.rA, .int .i64 d.rS, .int .i64 d.rV, .int .i64 d.rD] := hV 6 (by simp [hr])
        simp [does, doesUpon, go_sem, e6]
        refine (hbk x).mono ?_
        rintro _ x' ⟨rfl, h1⟩
        simp
        exact (hI.since h1).skip 7 (by decide) (by decide) (by decide)
      · have e5 : vals 5 = .pointer (some ⟨g, 19, none⟩) := hV 5 (by simp [hr])
        have B0 := hI.old (.inl hf)
        exact does_part_load B0 pRtt_big _ rfl 19 e5 [.bool d.rA, .int .i64 d.rS, .int .i64 d.rV, .int .i64 d.rD] rfl (fun j v hj => by match j, hj with | 0, h => exact h | 1, h => exact h | 2, h => exact h | 3, h => exact h | n + 4, h => exact absurd h (by simp)) ⟨hI.skip 6 (by decide) (by decide) (by decide), rfl⟩
      · have e4 : vals 4 = .pointer (some ⟨g, 0, none⟩) := hV 4 (by simp [hr])
        simp [does, doesUpon, go_sem, e4]
        exact hI.skip 5 (by decide) (by decide) (by decide)
      · have e3 : vals 3 = .pointer (some ⟨g, 0, none⟩) := hV 3 (by simp [hr])
        simp [does, doesUpon, go_sem, e3]
        exact hI.skip 4 (by decide) (by decide) (by decide)
      · simp [does, doesUpon, go_sem]
        exact hI.skip 3 (by decide) (by decide) (by decide)
      · simp [does, doesUpon, go_sem]
        exact hI.skip 2 (by decide) (by decide) (by decide)
      · simp [does, doesUpon, go_sem]
        exact hI.skip 1 (by decide) (by decide) (by decide)
      · simp [does, doesUpon, go_sem]
        exact hI.skip 0 (by decide) (by decide) (by decide)
    case refine_3 =>
      intro f qv5 qw4 hI hf hv
      have B0 : Blk g qw4 (actCells { d with trs := (d.trs + 1), rD := rd, cX := 100, cT := ct, cD := 0, cF := false, cR := 0, tmg := false } now (.slice (some ⟨gs, 0, none⟩) n cap)) := by
        have B := hI.blk
        rw [hf 19 (by decide), hf 22 (by decide), hf 25 (by decide)] at B
        exact B
      have hT := hI.touch
      clear hI hf I0
      have hv0 : qv5 0 = _ := hv 0 (by decide)
      have hv1 : qv5 1 = _ := hv 1 (by decide)
      have hv2 : qv5 2 = _ := hv 2 (by decide)
      have hv3 : qv5 3 = _ := hv 3 (by decide)
      have hv4 : qv5 4 = _ := hv 4 (by decide)
      have hv5 : qv5 5 = _ := hv 5 (by decide)
      have hv6 : qv5 6 = _ := hv 6 (by decide)
      have hv7 : qv5 7 = _ := hv 7 (by decide)
      have hv8 : qv5 8 = _ := hv 8 (by decide)
      have hv9 : qv5 9 = _ := hv 9 (by decide)
      have hv10 : qv5 10 = _ := hv 10 (by decide)
      have hv11 : qv5 11 = _ := hv 11 (by decide)
      have hv12 : qv5 12 = _ := hv 12 (by decide)
      have hv13 : qv5 13 = _ := hv 13 (by decide)
      have hv14 : qv5 14 = _ := hv 14 (by decide)
      have hv15 : qv5 15 = _ := hv 15 (by decide)
      have hv16 : qv5 16 = _ := hv 16 (by decide)
      have hv17 : qv5 17 = _ := hv 17 (by decide)
      have hv18 : qv5 18 = _ := hv 18 (by decide)
      have hv20 : qv5 20 = _ := hv 20 (by decide)
      have hv21 : qv5 21 = _ := hv 21 (by decide)
      have hv23 : qv5 23 = _ := hv 23 (by decide)
      have hv24 : qv5 24 = _ := hv 24 (by decide)
      clear hv
      simp only [hv0, hv1, hv2, hv3, hv4, hv5, hv6, hv7, hv8, hv9, hv10, hv11, hv12, hv13, hv14, hv15, hv16, hv17, hv18, hv20, hv21, hv23, hv24]
      clear hv0 hv1 hv2 hv3 hv4 hv5 hv6 hv7 hv8 hv9 hv10 hv11 hv12 hv13 hv14 hv15 hv16 hv17 hv18 hv20 hv21 hv23 hv24
      clear qB3
      replace L := L.touch hT (by omega)
      replace P := P.touch hT (by omega)
      replace G := G.touch hT (by omega)
      have hT_s := hT.size
      go_upto_region 5 with (fail)
      refine vR ?_
      refine vV (.pointer (some ⟨g, 0, none⟩)) ?_
      refine vV (.pointer (some ⟨g, 0, none⟩)) ?_
      refine vK (hfn _ _ _ B0) ?_
      intro qw6 qg7
      replace B0 := B0.since qg7
      replace L := L.since qg7
      replace P := P.since qg7
      replace G := G.trans qg7
      have qg7_s := qg7.size
      refine vV (.pointer (some ⟨g, 0, none⟩)) ?_
      refine vV (.pointer (some ⟨g, 31, none⟩)) ?_
      refine sC (actCells { d with trs := (d.trs + 1), rD := rd, cX := 100, cT := ct, cD := 0, cF := false, cR := 0, tmg := false, agn := (now + waitOf d.rA d.rS d.rV rd) } now (.slice (some ⟨gs, 0, none⟩) n cap)) B0 31 (.int .i64 (now + waitOf d.rA d.rS d.rV rd)) (act_size _ _ _) ?_
      intro qw8 qt9 qB10
      clear B0
      replace L := L.touch qt9 (by omega)
      replace P := P.touch qt9 (by omega)
      replace G := G.touch qt9 (by omega)
      have qt9_s := qt9.size
      refine vE #[.pointer (some ⟨g, 0, none⟩),U,.pointer (some ⟨g, 0, none⟩),U,.pointer (some ⟨g, 0, none⟩),.pointer (some ⟨g, 0, none⟩),.pointer (some ⟨g, 0, none⟩),.pointer (some ⟨g, 0, none⟩),.pointer (some ⟨g, 0, none⟩),.pointer (some ⟨g, 34, none⟩),.int .i64 d.trs,.bool false,U,U,.pointer (some ⟨g, 0, none⟩),.pointer (some ⟨g, 0, none⟩),.pointer (some ⟨g, 34, none⟩),.int .i64 d.trs,.int .i64 (d.trs + 1),.pointer (some ⟨g, 0, none⟩),.pointer (some ⟨g, 34, none⟩),.pointer (some ⟨g, 0, none⟩),.pointer (some ⟨g, 0, none⟩),.pointer (some ⟨g, 0, none⟩),.pointer (some ⟨g, 0, none⟩),.pointer (some ⟨g, 0, none⟩),.pointer (some ⟨g, 19, none⟩),.agg #[.bool d.rA, .int .i64 d.rS, .int .i64 d.rV, .int .i64 d.rD],.agg #[.bool d.rA, .int .i64 d.rS, .int .i64 d.rV, .int .i64 rd],.pointer (some ⟨g, 0, none⟩),.pointer (some ⟨g, 0, none⟩),.pointer (some ⟨g, 23, none⟩),.agg #[.int .i64 d.cX, .int .i64 d.cT, .int .i64 d.cD, .bool d.cF, .int .u32 d.cR],.pointer (some ⟨g, 0, none⟩),.pointer (some ⟨g, 0, none⟩),.agg (cnCells { d with trs := (d.trs + 1) }),.int .i64 uw,.agg #[.int .i64 100, .int .i64 ct, .int .i64 0, .bool false, .int .u32 0],.pointer (some ⟨g, 0, none⟩),.pointer (some ⟨g, 19, none⟩),.pointer (some ⟨g, 0, none⟩),.pointer (some ⟨g, 23, none⟩),.pointer (some ⟨g, 0, none⟩),.pointer (some ⟨g, 28, none⟩),.pointer (some ⟨g, 0, none⟩),.pointer (some ⟨g, 0, none⟩),.int .i64 (now + waitOf d.rA d.rS d.rV rd),.pointer (some ⟨g, 0, none⟩),.pointer (some ⟨g, 31, none⟩),U,U,U,U,U,U,U,U,U,U,U,U,U,U,U,U,U,U,U,U,U,U,U] ?_
      go_upto_region 6 with (fail)
      obtain ⟨b1, h1_⟩ : ∃ q, Hid (q = (d.st == 1)) := ⟨_, rfl⟩
      obtain ⟨b2, h2_⟩ : ∃ q, Hid (q = (d.st == 2)) := ⟨_, rfl⟩
      cases b1
      case true =>
        have hs : d.st = 1 := by simpa using h1_.out.symm
        replace hs : Hid _ := hs
        have hXs : Hid (againX ps now d xs = (triedC d now, xs ++ [synSg (triedC d now) ps])) := hX.out.trans (if_pos (.inl hs.out))
        have hsy := fun wx => implSyn { d with trs := (d.trs + 1), rD := rd, cX := 100, cT := ct, cD := 0, cF := false, cR := 0, tmg := false, agn := (now + waitOf d.rA d.rS d.rV rd) } wx
        unfold cnVal sgVal at hsy
        rw [show synI { d with trs := (d.trs + 1), rD := rd, cX := 100, cT := ct, cD := 0, cF := false, cR := 0, tmg := false, agn := (now + waitOf d.rA d.rS d.rV rd) } = ⟨0, 0, d.iss, 0, 2, d.iR, 100, ByteArray.empty⟩ by unfold synI; rw [show ({ d with trs := (d.trs + 1), rD := rd, cX := 100, cT := ct, cD := 0, cF := false, cR := 0, tmg := false, agn := (now + waitOf d.rA d.rS d.rV rd) } : Cn).st = 1 from hs.out]; rfl] at hsy
        have hrm := fun wx Rx => implInRoom d.iN d.iD d.iR d.pa d.pn d.pc ps ok.gd wx Rx
        unfold inVal at hrm
        obtain ⟨rm, hrme⟩ : ∃ q, Hid (q = inRoomN d.iN d.iD d.iR ps) := ⟨_, rfl⟩
        rw [← hrme.out] at hrm
        have hps : Hid (synSg (triedC d now) ps = ⟨0, 0, d.iss, 0, 2, rm, 100, ByteArray.empty⟩) := by
          show _ = _
          rw [htC.out]
          unfold synSg
          rw [show ({ d with trs := (d.trs + 1), rD := rd, cX := 100, cT := ct, cD := 0, cF := false, cR := 0, tmg := false, agn := (now + waitOf d.rA d.rS d.rV rd) } : Cn).st = 1 from hs.out, hrme.out]
          rfl
        refine vR ?_
        refine vV (.pointer (some ⟨g, 0, none⟩)) ?_
        refine vV (.pointer (some ⟨g, 0, none⟩)) ?_
        refine vV (.pointer (some ⟨g, 0, none⟩)) ?_
        refine vD (.int .i64 d.st) (qB10.cell 0) ?_
        refine vE #[.pointer (some ⟨g, 0, none⟩),U,.pointer (some ⟨g, 0, none⟩),U,.pointer (some ⟨g, 0, none⟩),.pointer (some ⟨g, 0, none⟩),.pointer (some ⟨g, 0, none⟩),.pointer (some ⟨g, 0, none⟩),.pointer (some ⟨g, 0, none⟩),.pointer (some ⟨g, 34, none⟩),.int .i64 d.trs,.bool false,U,U,.pointer (some ⟨g, 0, none⟩),.pointer (some ⟨g, 0, none⟩),.pointer (some ⟨g, 34, none⟩),.int .i64 d.trs,.int .i64 (d.trs + 1),.pointer (some ⟨g, 0, none⟩),.pointer (some ⟨g, 34, none⟩),.pointer (some ⟨g, 0, none⟩),.pointer (some ⟨g, 0, none⟩),.pointer (some ⟨g, 0, none⟩),.pointer (some ⟨g, 0, none⟩),.pointer (some ⟨g, 0, none⟩),.pointer (some ⟨g, 19, none⟩),.agg #[.bool d.rA, .int .i64 d.rS, .int .i64 d.rV, .int .i64 d.rD],.agg #[.bool d.rA, .int .i64 d.rS, .int .i64 d.rV, .int .i64 rd],.pointer (some ⟨g, 0, none⟩),.pointer (some ⟨g, 0, none⟩),.pointer (some ⟨g, 23, none⟩),.agg #[.int .i64 d.cX, .int .i64 d.cT, .int .i64 d.cD, .bool d.cF, .int .u32 d.cR],.pointer (some ⟨g, 0, none⟩),.pointer (some ⟨g, 0, none⟩),.agg (cnCells { d with trs := (d.trs + 1) }),.int .i64 uw,.agg #[.int .i64 100, .int .i64 ct, .int .i64 0, .bool false, .int .u32 0],.pointer (some ⟨g, 0, none⟩),.pointer (some ⟨g, 19, none⟩),.pointer (some ⟨g, 0, none⟩),.pointer (some ⟨g, 23, none⟩),.pointer (some ⟨g, 0, none⟩),.pointer (some ⟨g, 28, none⟩),.pointer (some ⟨g, 0, none⟩),.pointer (some ⟨g, 0, none⟩),.int .i64 (now + waitOf d.rA d.rS d.rV rd),.pointer (some ⟨g, 0, none⟩),.pointer (some ⟨g, 31, none⟩),.pointer (some ⟨g, 0, none⟩),.pointer (some ⟨g, 0, none⟩),.pointer (some ⟨g, 0, none⟩),.int .i64 d.st,U,U,U,U,U,U,U,U,U,U,U,U,U,U,U,U,U,U,U] ?_
        go_upto_region 8 with (fail)
        refine vR ?_
        refine vV (.bool true) ?_ (hrun := by rw [show true = (d.st == 1) from h1_.out]; kernel_rfl)
        refine vV (.bool true) ?_
        refine vE #[.pointer (some ⟨g, 0, none⟩),U,.pointer (some ⟨g, 0, none⟩),U,.pointer (some ⟨g, 0, none⟩),.pointer (some ⟨g, 0, none⟩),.pointer (some ⟨g, 0, none⟩),.pointer (some ⟨g, 0, none⟩),.pointer (some ⟨g, 0, none⟩),.pointer (some ⟨g, 34, none⟩),.int .i64 d.trs,.bool false,U,U,.pointer (some ⟨g, 0, none⟩),.pointer (some ⟨g, 0, none⟩),.pointer (some ⟨g, 34, none⟩),.int .i64 d.trs,.int .i64 (d.trs + 1),.pointer (some ⟨g, 0, none⟩),.pointer (some ⟨g, 34, none⟩),.pointer (some ⟨g, 0, none⟩),.pointer (some ⟨g, 0, none⟩),.pointer (some ⟨g, 0, none⟩),.pointer (some ⟨g, 0, none⟩),.pointer (some ⟨g, 0, none⟩),.pointer (some ⟨g, 19, none⟩),.agg #[.bool d.rA, .int .i64 d.rS, .int .i64 d.rV, .int .i64 d.rD],.agg #[.bool d.rA, .int .i64 d.rS, .int .i64 d.rV, .int .i64 rd],.pointer (some ⟨g, 0, none⟩),.pointer (some ⟨g, 0, none⟩),.pointer (some ⟨g, 23, none⟩),.agg #[.int .i64 d.cX, .int .i64 d.cT, .int .i64 d.cD, .bool d.cF, .int .u32 d.cR],.pointer (some ⟨g, 0, none⟩),.pointer (some ⟨g, 0, none⟩),.agg (cnCells { d with trs := (d.trs + 1) }),.int .i64 uw,.agg #[.int .i64 100, .int .i64 ct, .int .i64 0, .bool false, .int .u32 0],.pointer (some ⟨g, 0, none⟩),.pointer (some ⟨g, 19, none⟩),.pointer (some ⟨g, 0, none⟩),.pointer (some ⟨g, 23, none⟩),.pointer (some ⟨g, 0, none⟩),.pointer (some ⟨g, 28, none⟩),.pointer (some ⟨g, 0, none⟩),.pointer (some ⟨g, 0, none⟩),.int .i64 (now + waitOf d.rA d.rS d.rV rd),.pointer (some ⟨g, 0, none⟩),.pointer (some ⟨g, 31, none⟩),.pointer (some ⟨g, 0, none⟩),.pointer (some ⟨g, 0, none⟩),.pointer (some ⟨g, 0, none⟩),.int .i64 d.st,U,U,.bool true,.bool true,U,U,U,U,U,U,U,U,U,U,U,U,U,U,U] ?_
        go_upto_region 10 with (fail)
        refine vR ?_
        refine vV (.pointer (some ⟨g, 0, none⟩)) ?_
        refine vV (.pointer (some ⟨g, 0, none⟩)) ?_
        refine VL.mk (want_end qB10 (by kernel_rfl) _ rfl (by kernel_rfl) (VL.out ?_))
        refine vK (hsy _) ?_
        intro qw11 qg12
        replace qB10 := qB10.since qg12
        replace L := L.since qg12
        replace P := P.since qg12
        replace G := G.trans qg12
        have qg12_s := qg12.size
        refine vW (qw11.alloc (.cells (sgCells sgZero) 61)) (.pointer (some ⟨qw11.heap.size, 0, none⟩)) ?_
        have qB14 := Blk.new qw11 (sgCells sgZero) 61
        have qg15 := (Since.refl qw11).alloc (.cells (sgCells sgZero) 61)
        replace qB10 := qB10.since qg15
        replace L := L.since qg15
        replace P := P.since qg15
        replace G := G.trans qg15
        generalize qw11.alloc (.cells (sgCells sgZero) 61) = qw13 at qB10 L P G qB14 qg15 ⊢
        have qB14_l := qB14.lt
        have qg15_s := qg15.size
        refine sB (sgCells ⟨0, 0, d.iss, 0, 2, d.iR, 100, ByteArray.empty⟩) seg_big qB14 rfl rfl (seg_one _ _ _ _ _ _ _ _) ?_
        intro qw16 qt17 qB18
        clear qB14
        replace qB10 := qB10.touch qt17 (by omega)
        replace L := L.touch qt17 (by omega)
        replace P := P.touch qt17 (by omega)
        replace G := G.touch qt17 (by omega)
        have qt17_s := qt17.size
        refine vE #[.pointer (some ⟨g, 0, none⟩),U,.pointer (some ⟨g, 0, none⟩),.pointer (some ⟨qw11.heap.size, 0, none⟩),.pointer (some ⟨g, 0, none⟩),.pointer (some ⟨g, 0, none⟩),.pointer (some ⟨g, 0, none⟩),.pointer (some ⟨g, 0, none⟩),.pointer (some ⟨g, 0, none⟩),.pointer (some ⟨g, 34, none⟩),.int .i64 d.trs,.bool false,U,U,.pointer (some ⟨g, 0, none⟩),.pointer (some ⟨g, 0, none⟩),.pointer (some ⟨g, 34, none⟩),.int .i64 d.trs,.int .i64 (d.trs + 1),.pointer (some ⟨g, 0, none⟩),.pointer (some ⟨g, 34, none⟩),.pointer (some ⟨g, 0, none⟩),.pointer (some ⟨g, 0, none⟩),.pointer (some ⟨g, 0, none⟩),.pointer (some ⟨g, 0, none⟩),.pointer (some ⟨g, 0, none⟩),.pointer (some ⟨g, 19, none⟩),.agg #[.bool d.rA, .int .i64 d.rS, .int .i64 d.rV, .int .i64 d.rD],.agg #[.bool d.rA, .int .i64 d.rS, .int .i64 d.rV, .int .i64 rd],.pointer (some ⟨g, 0, none⟩),.pointer (some ⟨g, 0, none⟩),.pointer (some ⟨g, 23, none⟩),.agg #[.int .i64 d.cX, .int .i64 d.cT, .int .i64 d.cD, .bool d.cF, .int .u32 d.cR],.pointer (some ⟨g, 0, none⟩),.pointer (some ⟨g, 0, none⟩),.agg (cnCells { d with trs := (d.trs + 1) }),.int .i64 uw,.agg #[.int .i64 100, .int .i64 ct, .int .i64 0, .bool false, .int .u32 0],.pointer (some ⟨g, 0, none⟩),.pointer (some ⟨g, 19, none⟩),.pointer (some ⟨g, 0, none⟩),.pointer (some ⟨g, 23, none⟩),.pointer (some ⟨g, 0, none⟩),.pointer (some ⟨g, 28, none⟩),.pointer (some ⟨g, 0, none⟩),.pointer (some ⟨g, 0, none⟩),.int .i64 (now + waitOf d.rA d.rS d.rV rd),.pointer (some ⟨g, 0, none⟩),.pointer (some ⟨g, 31, none⟩),.pointer (some ⟨g, 0, none⟩),.pointer (some ⟨g, 0, none⟩),.pointer (some ⟨g, 0, none⟩),.int .i64 d.st,U,U,.bool true,.bool true,U,.pointer (some ⟨g, 0, none⟩),.pointer (some ⟨g, 0, none⟩),.agg (cnCells { d with trs := (d.trs + 1), rD := rd, cX := 100, cT := ct, cD := 0, cF := false, cR := 0, tmg := false, agn := (now + waitOf d.rA d.rS d.rV rd) }),.agg (sgCells ⟨0, 0, d.iss, 0, 2, d.iR, 100, ByteArray.empty⟩),U,U,U,U,U,U,U,U,U,U] ?_
        go_upto_region 11 with (fail)
        refine vR ?_
        refine vV (.pointer (some ⟨g, 0, none⟩)) ?_
        refine vV (.pointer (some ⟨g, 0, none⟩)) ?_
        refine vV (.pointer (some ⟨g, 11, none⟩)) ?_
        refine vP pIn_big qB10 11 [.int .u32 d.iN, .string d.iD, .slice d.pa d.pn d.pc, .int .i64 d.iR] ?_
        refine vK (hrm _ (rd_of pa P)) ?_
        intro qw19 qg20
        replace qB10 := qB10.since qg20
        replace qB18 := qB18.since qg20
        replace L := L.since qg20
        replace P := P.since qg20
        replace G := G.trans qg20
        have qg20_s := qg20.size
        refine vV (.pointer (some ⟨qw11.heap.size, 5, none⟩)) ?_
        refine sC (sgCells ⟨0, 0, d.iss, 0, 2, rm, 100, ByteArray.empty⟩) qB18 5 (.int .i64 rm) rfl ?_
        intro qw21 qt22 qB23
        clear qB18
        replace qB10 := qB10.touch qt22 (by omega)
        replace L := L.touch qt22 (by omega)
        replace P := P.touch qt22 (by omega)
        replace G := G.touch qt22 (by omega)
        have qt22_s := qt22.size
        refine vE #[.pointer (some ⟨g, 0, none⟩),U,.pointer (some ⟨g, 0, none⟩),.pointer (some ⟨qw11.heap.size, 0, none⟩),.pointer (some ⟨g, 0, none⟩),.pointer (some ⟨g, 0, none⟩),.pointer (some ⟨g, 0, none⟩),.pointer (some ⟨g, 0, none⟩),.pointer (some ⟨g, 0, none⟩),.pointer (some ⟨g, 34, none⟩),.int .i64 d.trs,.bool false,U,U,.pointer (some ⟨g, 0, none⟩),.pointer (some ⟨g, 0, none⟩),.pointer (some ⟨g, 34, none⟩),.int .i64 d.trs,.int .i64 (d.trs + 1),.pointer (some ⟨g, 0, none⟩),.pointer (some ⟨g, 34, none⟩),.pointer (some ⟨g, 0, none⟩),.pointer (some ⟨g, 0, none⟩),.pointer (some ⟨g, 0, none⟩),.pointer (some ⟨g, 0, none⟩),.pointer (some ⟨g, 0, none⟩),.pointer (some ⟨g, 19, none⟩),.agg #[.bool d.rA, .int .i64 d.rS, .int .i64 d.rV, .int .i64 d.rD],.agg #[.bool d.rA, .int .i64 d.rS, .int .i64 d.rV, .int .i64 rd],.pointer (some ⟨g, 0, none⟩),.pointer (some ⟨g, 0, none⟩),.pointer (some ⟨g, 23, none⟩),.agg #[.int .i64 d.cX, .int .i64 d.cT, .int .i64 d.cD, .bool d.cF, .int .u32 d.cR],.pointer (some ⟨g, 0, none⟩),.pointer (some ⟨g, 0, none⟩),.agg (cnCells { d with trs := (d.trs + 1) }),.int .i64 uw,.agg #[.int .i64 100, .int .i64 ct, .int .i64 0, .bool false, .int .u32 0],.pointer (some ⟨g, 0, none⟩),.pointer (some ⟨g, 19, none⟩),.pointer (some ⟨g, 0, none⟩),.pointer (some ⟨g, 23, none⟩),.pointer (some ⟨g, 0, none⟩),.pointer (some ⟨g, 28, none⟩),.pointer (some ⟨g, 0, none⟩),.pointer (some ⟨g, 0, none⟩),.int .i64 (now + waitOf d.rA d.rS d.rV rd),.pointer (some ⟨g, 0, none⟩),.pointer (some ⟨g, 31, none⟩),.pointer (some ⟨g, 0, none⟩),.pointer (some ⟨g, 0, none⟩),.pointer (some ⟨g, 0, none⟩),.int .i64 d.st,U,U,.bool true,.bool true,U,.pointer (some ⟨g, 0, none⟩),.pointer (some ⟨g, 0, none⟩),.agg (cnCells { d with trs := (d.trs + 1), rD := rd, cX := 100, cT := ct, cD := 0, cF := false, cR := 0, tmg := false, agn := (now + waitOf d.rA d.rS d.rV rd) }),.agg (sgCells ⟨0, 0, d.iss, 0, 2, d.iR, 100, ByteArray.empty⟩),.pointer (some ⟨g, 0, none⟩),.pointer (some ⟨g, 0, none⟩),.pointer (some ⟨g, 11, none⟩),.agg #[.int .u32 d.iN, .string d.iD, .slice d.pa d.pn d.pc, .int .i64 d.iR],.int .i64 rm,.pointer (some ⟨qw11.heap.size, 5, none⟩),U,U,U,U] ?_
        go_upto_region 12 with (fail)
        refine vR ?_
        refine vV (.pointer (some ⟨g, 0, none⟩)) ?_
        refine vB seg_big qB23 rfl ?_
        refine vW (qw21.alloc (.cells (sgCells ⟨0, 0, d.iss, 0, 2, rm, 100, ByteArray.empty⟩) 61)) (.slice (some ⟨qw21.heap.size, 0, none⟩) 1 1) ?_
        have qL25 := heldG1 qw21 (⟨0, 0, d.iss, 0, 2, rm, 100, ByteArray.empty⟩)
        have qg26 := (Since.refl qw21).alloc (.cells (sgCells ⟨0, 0, d.iss, 0, 2, rm, 100, ByteArray.empty⟩) 61)
        replace qB10 := qB10.since qg26
        replace qB23 := qB23.since qg26
        replace L := L.since qg26
        replace P := P.since qg26
        replace G := G.trans qg26
        generalize qw21.alloc (.cells (sgCells ⟨0, 0, d.iss, 0, 2, rm, 100, ByteArray.empty⟩) 61) = qw24 at qB10 qB23 L P G qL25 qg26 ⊢
        have qg26_s := qg26.size
        have qL25_l := qL25.lt
        refine vC (implSends _ _ _ _ _ _ _ _ _ _ ⟨0, 0, d.iss, 0, 2, rm, 100, ByteArray.empty⟩ _ hn _ ⟨qB10, L, P, pa, lo, (by omega), (by omega), (by omega)⟩ (qL25.raise (by omega)) (by omega)) ?_
        rintro _ qw27 ⟨rfl, ⟨gsqk29, nqk29, cqk29, ⟨Aqk29, Lqk29, Pqk29, paqk29, loqk29, iqk29, jqk29, lqk29⟩⟩, qh28⟩
        refine ⟨_, rfl, ?_⟩
        clear qB10 L P
        clear qB23
        replace G := G.base qh28
        have qh28_s := qh28.size
        have Aqk29_l := Aqk29.lt
        have Lqk29_l := Lqk29.lt
        have Lqk29_o := Lqk29.low'
        have Pqk29_l := Pqk29.lt
        refine vE #[.pointer (some ⟨g, 0, none⟩),U,.pointer (some ⟨g, 0, none⟩),.pointer (some ⟨qw11.heap.size, 0, none⟩),.pointer (some ⟨g, 0, none⟩),.pointer (some ⟨g, 0, none⟩),.pointer (some ⟨g, 0, none⟩),.pointer (some ⟨g, 0, none⟩),.pointer (some ⟨g, 0, none⟩),.pointer (some ⟨g, 34, none⟩),.int .i64 d.trs,.bool false,U,U,.pointer (some ⟨g, 0, none⟩),.pointer (some ⟨g, 0, none⟩),.pointer (some ⟨g, 34, none⟩),.int .i64 d.trs,.int .i64 (d.trs + 1),.pointer (some ⟨g, 0, none⟩),.pointer (some ⟨g, 34, none⟩),.pointer (some ⟨g, 0, none⟩),.pointer (some ⟨g, 0, none⟩),.pointer (some ⟨g, 0, none⟩),.pointer (some ⟨g, 0, none⟩),.pointer (some ⟨g, 0, none⟩),.pointer (some ⟨g, 19, none⟩),.agg #[.bool d.rA, .int .i64 d.rS, .int .i64 d.rV, .int .i64 d.rD],.agg #[.bool d.rA, .int .i64 d.rS, .int .i64 d.rV, .int .i64 rd],.pointer (some ⟨g, 0, none⟩),.pointer (some ⟨g, 0, none⟩),.pointer (some ⟨g, 23, none⟩),.agg #[.int .i64 d.cX, .int .i64 d.cT, .int .i64 d.cD, .bool d.cF, .int .u32 d.cR],.pointer (some ⟨g, 0, none⟩),.pointer (some ⟨g, 0, none⟩),.agg (cnCells { d with trs := (d.trs + 1) }),.int .i64 uw,.agg #[.int .i64 100, .int .i64 ct, .int .i64 0, .bool false, .int .u32 0],.pointer (some ⟨g, 0, none⟩),.pointer (some ⟨g, 19, none⟩),.pointer (some ⟨g, 0, none⟩),.pointer (some ⟨g, 23, none⟩),.pointer (some ⟨g, 0, none⟩),.pointer (some ⟨g, 28, none⟩),.pointer (some ⟨g, 0, none⟩),.pointer (some ⟨g, 0, none⟩),.int .i64 (now + waitOf d.rA d.rS d.rV rd),.pointer (some ⟨g, 0, none⟩),.pointer (some ⟨g, 31, none⟩),.pointer (some ⟨g, 0, none⟩),.pointer (some ⟨g, 0, none⟩),.pointer (some ⟨g, 0, none⟩),.int .i64 d.st,U,U,.bool true,.bool true,U,.pointer (some ⟨g, 0, none⟩),.pointer (some ⟨g, 0, none⟩),.agg (cnCells { d with trs := (d.trs + 1), rD := rd, cX := 100, cT := ct, cD := 0, cF := false, cR := 0, tmg := false, agn := (now + waitOf d.rA d.rS d.rV rd) }),.agg (sgCells ⟨0, 0, d.iss, 0, 2, d.iR, 100, ByteArray.empty⟩),.pointer (some ⟨g, 0, none⟩),.pointer (some ⟨g, 0, none⟩),.pointer (some ⟨g, 11, none⟩),.agg #[.int .u32 d.iN, .string d.iD, .slice d.pa d.pn d.pc, .int .i64 d.iR],.int .i64 rm,.pointer (some ⟨qw11.heap.size, 5, none⟩),.pointer (some ⟨g, 0, none⟩),.agg (sgCells ⟨0, 0, d.iss, 0, 2, rm, 100, ByteArray.empty⟩),.slice (some ⟨qw21.heap.size, 0, none⟩) 1 1,.tuple #[]] ?_
        rw [← hps.out] at Lqk29
        go_wp2_with (fail)
        refine bodyPost_end (v := .tuple #[]) (results_none rfl _ _ _) rfl ⟨rfl, ?_, G⟩
        rw [hXs.out]
        show ActsX B g pg now ps (triedC d now) (xs ++ [synSg (triedC d now) ps]) _
        rw [htC.out]
        rw [htC.out] at Lqk29
        exact ⟨_, _, _, ⟨Aqk29, Lqk29, Pqk29, paqk29, loqk29, (by omega), (by omega), (by omega)⟩⟩
      case false =>
        cases b2
        case true =>
          have hs : d.st = 2 := by simpa using h2_.out.symm
          replace hs : Hid _ := hs
          have hXs : Hid (againX ps now d xs = (triedC d now, xs ++ [synSg (triedC d now) ps])) := hX.out.trans (if_pos (.inr hs.out))
          have hsy := fun wx => implSyn { d with trs := (d.trs + 1), rD := rd, cX := 100, cT := ct, cD := 0, cF := false, cR := 0, tmg := false, agn := (now + waitOf d.rA d.rS d.rV rd) } wx
          unfold cnVal sgVal at hsy
          rw [show synI { d with trs := (d.trs + 1), rD := rd, cX := 100, cT := ct, cD := 0, cF := false, cR := 0, tmg := false, agn := (now + waitOf d.rA d.rS d.rV rd) } = ⟨0, 0, d.iss, d.iN, 18, d.iR, 100, ByteArray.empty⟩ by unfold synI; rw [show ({ d with trs := (d.trs + 1), rD := rd, cX := 100, cT := ct, cD := 0, cF := false, cR := 0, tmg := false, agn := (now + waitOf d.rA d.rS d.rV rd) } : Cn).st = 2 from hs.out]; rfl] at hsy
          have hrm := fun wx Rx => implInRoom d.iN d.iD d.iR d.pa d.pn d.pc ps ok.gd wx Rx
          unfold inVal at hrm
          obtain ⟨rm, hrme⟩ : ∃ q, Hid (q = inRoomN d.iN d.iD d.iR ps) := ⟨_, rfl⟩
          rw [← hrme.out] at hrm
          have hps : Hid (synSg (triedC d now) ps = ⟨0, 0, d.iss, d.iN, 18, rm, 100, ByteArray.empty⟩) := by
            show _ = _
            rw [htC.out]
            unfold synSg
            rw [show ({ d with trs := (d.trs + 1), rD := rd, cX := 100, cT := ct, cD := 0, cF := false, cR := 0, tmg := false, agn := (now + waitOf d.rA d.rS d.rV rd) } : Cn).st = 2 from hs.out, hrme.out]
            rfl
          refine vR ?_
          refine vV (.pointer (some ⟨g, 0, none⟩)) ?_
          refine vV (.pointer (some ⟨g, 0, none⟩)) ?_
          refine vV (.pointer (some ⟨g, 0, none⟩)) ?_
          refine vD (.int .i64 d.st) (qB10.cell 0) ?_
          refine vE #[.pointer (some ⟨g, 0, none⟩),U,.pointer (some ⟨g, 0, none⟩),U,.pointer (some ⟨g, 0, none⟩),.pointer (some ⟨g, 0, none⟩),.pointer (some ⟨g, 0, none⟩),.pointer (some ⟨g, 0, none⟩),.pointer (some ⟨g, 0, none⟩),.pointer (some ⟨g, 34, none⟩),.int .i64 d.trs,.bool false,U,U,.pointer (some ⟨g, 0, none⟩),.pointer (some ⟨g, 0, none⟩),.pointer (some ⟨g, 34, none⟩),.int .i64 d.trs,.int .i64 (d.trs + 1),.pointer (some ⟨g, 0, none⟩),.pointer (some ⟨g, 34, none⟩),.pointer (some ⟨g, 0, none⟩),.pointer (some ⟨g, 0, none⟩),.pointer (some ⟨g, 0, none⟩),.pointer (some ⟨g, 0, none⟩),.pointer (some ⟨g, 0, none⟩),.pointer (some ⟨g, 19, none⟩),.agg #[.bool d.rA, .int .i64 d.rS, .int .i64 d.rV, .int .i64 d.rD],.agg #[.bool d.rA, .int .i64 d.rS, .int .i64 d.rV, .int .i64 rd],.pointer (some ⟨g, 0, none⟩),.pointer (some ⟨g, 0, none⟩),.pointer (some ⟨g, 23, none⟩),.agg #[.int .i64 d.cX, .int .i64 d.cT, .int .i64 d.cD, .bool d.cF, .int .u32 d.cR],.pointer (some ⟨g, 0, none⟩),.pointer (some ⟨g, 0, none⟩),.agg (cnCells { d with trs := (d.trs + 1) }),.int .i64 uw,.agg #[.int .i64 100, .int .i64 ct, .int .i64 0, .bool false, .int .u32 0],.pointer (some ⟨g, 0, none⟩),.pointer (some ⟨g, 19, none⟩),.pointer (some ⟨g, 0, none⟩),.pointer (some ⟨g, 23, none⟩),.pointer (some ⟨g, 0, none⟩),.pointer (some ⟨g, 28, none⟩),.pointer (some ⟨g, 0, none⟩),.pointer (some ⟨g, 0, none⟩),.int .i64 (now + waitOf d.rA d.rS d.rV rd),.pointer (some ⟨g, 0, none⟩),.pointer (some ⟨g, 31, none⟩),.pointer (some ⟨g, 0, none⟩),.pointer (some ⟨g, 0, none⟩),.pointer (some ⟨g, 0, none⟩),.int .i64 d.st,U,U,U,U,U,U,U,U,U,U,U,U,U,U,U,U,U,U,U] ?_
          go_upto_region 8 with (fail)
          refine vR ?_
          refine vV (.bool false) ?_ (hrun := by rw [show false = (d.st == 1) from h1_.out]; kernel_rfl)
          refine vV (.bool false) ?_
          refine vE #[.pointer (some ⟨g, 0, none⟩),U,.pointer (some ⟨g, 0, none⟩),U,.pointer (some ⟨g, 0, none⟩),.pointer (some ⟨g, 0, none⟩),.pointer (some ⟨g, 0, none⟩),.pointer (some ⟨g, 0, none⟩),.pointer (some ⟨g, 0, none⟩),.pointer (some ⟨g, 34, none⟩),.int .i64 d.trs,.bool false,U,U,.pointer (some ⟨g, 0, none⟩),.pointer (some ⟨g, 0, none⟩),.pointer (some ⟨g, 34, none⟩),.int .i64 d.trs,.int .i64 (d.trs + 1),.pointer (some ⟨g, 0, none⟩),.pointer (some ⟨g, 34, none⟩),.pointer (some ⟨g, 0, none⟩),.pointer (some ⟨g, 0, none⟩),.pointer (some ⟨g, 0, none⟩),.pointer (some ⟨g, 0, none⟩),.pointer (some ⟨g, 0, none⟩),.pointer (some ⟨g, 19, none⟩),.agg #[.bool d.rA, .int .i64 d.rS, .int .i64 d.rV, .int .i64 d.rD],.agg #[.bool d.rA, .int .i64 d.rS, .int .i64 d.rV, .int .i64 rd],.pointer (some ⟨g, 0, none⟩),.pointer (some ⟨g, 0, none⟩),.pointer (some ⟨g, 23, none⟩),.agg #[.int .i64 d.cX, .int .i64 d.cT, .int .i64 d.cD, .bool d.cF, .int .u32 d.cR],.pointer (some ⟨g, 0, none⟩),.pointer (some ⟨g, 0, none⟩),.agg (cnCells { d with trs := (d.trs + 1) }),.int .i64 uw,.agg #[.int .i64 100, .int .i64 ct, .int .i64 0, .bool false, .int .u32 0],.pointer (some ⟨g, 0, none⟩),.pointer (some ⟨g, 19, none⟩),.pointer (some ⟨g, 0, none⟩),.pointer (some ⟨g, 23, none⟩),.pointer (some ⟨g, 0, none⟩),.pointer (some ⟨g, 28, none⟩),.pointer (some ⟨g, 0, none⟩),.pointer (some ⟨g, 0, none⟩),.int .i64 (now + waitOf d.rA d.rS d.rV rd),.pointer (some ⟨g, 0, none⟩),.pointer (some ⟨g, 31, none⟩),.pointer (some ⟨g, 0, none⟩),.pointer (some ⟨g, 0, none⟩),.pointer (some ⟨g, 0, none⟩),.int .i64 d.st,U,U,.bool false,.bool false,U,U,U,U,U,U,U,U,U,U,U,U,U,U,U] ?_
          go_upto_region 9 with (fail)
          refine vR ?_
          refine vV (.bool true) ?_ (hrun := by rw [show true = (d.st == 2) from h2_.out]; kernel_rfl)
          refine vV (.bool true) ?_
          refine vE #[.pointer (some ⟨g, 0, none⟩),U,.pointer (some ⟨g, 0, none⟩),U,.pointer (some ⟨g, 0, none⟩),.pointer (some ⟨g, 0, none⟩),.pointer (some ⟨g, 0, none⟩),.pointer (some ⟨g, 0, none⟩),.pointer (some ⟨g, 0, none⟩),.pointer (some ⟨g, 34, none⟩),.int .i64 d.trs,.bool false,U,U,.pointer (some ⟨g, 0, none⟩),.pointer (some ⟨g, 0, none⟩),.pointer (some ⟨g, 34, none⟩),.int .i64 d.trs,.int .i64 (d.trs + 1),.pointer (some ⟨g, 0, none⟩),.pointer (some ⟨g, 34, none⟩),.pointer (some ⟨g, 0, none⟩),.pointer (some ⟨g, 0, none⟩),.pointer (some ⟨g, 0, none⟩),.pointer (some ⟨g, 0, none⟩),.pointer (some ⟨g, 0, none⟩),.pointer (some ⟨g, 19, none⟩),.agg #[.bool d.rA, .int .i64 d.rS, .int .i64 d.rV, .int .i64 d.rD],.agg #[.bool d.rA, .int .i64 d.rS, .int .i64 d.rV, .int .i64 rd],.pointer (some ⟨g, 0, none⟩),.pointer (some ⟨g, 0, none⟩),.pointer (some ⟨g, 23, none⟩),.agg #[.int .i64 d.cX, .int .i64 d.cT, .int .i64 d.cD, .bool d.cF, .int .u32 d.cR],.pointer (some ⟨g, 0, none⟩),.pointer (some ⟨g, 0, none⟩),.agg (cnCells { d with trs := (d.trs + 1) }),.int .i64 uw,.agg #[.int .i64 100, .int .i64 ct, .int .i64 0, .bool false, .int .u32 0],.pointer (some ⟨g, 0, none⟩),.pointer (some ⟨g, 19, none⟩),.pointer (some ⟨g, 0, none⟩),.pointer (some ⟨g, 23, none⟩),.pointer (some ⟨g, 0, none⟩),.pointer (some ⟨g, 28, none⟩),.pointer (some ⟨g, 0, none⟩),.pointer (some ⟨g, 0, none⟩),.int .i64 (now + waitOf d.rA d.rS d.rV rd),.pointer (some ⟨g, 0, none⟩),.pointer (some ⟨g, 31, none⟩),.pointer (some ⟨g, 0, none⟩),.pointer (some ⟨g, 0, none⟩),.pointer (some ⟨g, 0, none⟩),.int .i64 d.st,U,U,.bool true,.bool false,.bool true,U,U,U,U,U,U,U,U,U,U,U,U,U,U] ?_
          go_upto_region 10 with (fail)
          refine vR ?_
          refine vV (.pointer (some ⟨g, 0, none⟩)) ?_
          refine vV (.pointer (some ⟨g, 0, none⟩)) ?_
          refine VL.mk (want_end qB10 (by kernel_rfl) _ rfl (by kernel_rfl) (VL.out ?_))
          refine vK (hsy _) ?_
          intro qw11 qg12
          replace qB10 := qB10.since qg12
          replace L := L.since qg12
          replace P := P.since qg12
          replace G := G.trans qg12
          have qg12_s := qg12.size
          refine vW (qw11.alloc (.cells (sgCells sgZero) 61)) (.pointer (some ⟨qw11.heap.size, 0, none⟩)) ?_
          have qB14 := Blk.new qw11 (sgCells sgZero) 61
          have qg15 := (Since.refl qw11).alloc (.cells (sgCells sgZero) 61)
          replace qB10 := qB10.since qg15
          replace L := L.since qg15
          replace P := P.since qg15
          replace G := G.trans qg15
          generalize qw11.alloc (.cells (sgCells sgZero) 61) = qw13 at qB10 L P G qB14 qg15 ⊢
          have qB14_l := qB14.lt
          have qg15_s := qg15.size
          refine sB (sgCells ⟨0, 0, d.iss, d.iN, 18, d.iR, 100, ByteArray.empty⟩) seg_big qB14 rfl rfl (seg_one _ _ _ _ _ _ _ _) ?_
          intro qw16 qt17 qB18
          clear qB14
          replace qB10 := qB10.touch qt17 (by omega)
          replace L := L.touch qt17 (by omega)
          replace P := P.touch qt17 (by omega)
          replace G := G.touch qt17 (by omega)
          have qt17_s := qt17.size
          refine vE #[.pointer (some ⟨g, 0, none⟩),U,.pointer (some ⟨g, 0, none⟩),.pointer (some ⟨qw11.heap.size, 0, none⟩),.pointer (some ⟨g, 0, none⟩),.pointer (some ⟨g, 0, none⟩),.pointer (some ⟨g, 0, none⟩),.pointer (some ⟨g, 0, none⟩),.pointer (some ⟨g, 0, none⟩),.pointer (some ⟨g, 34, none⟩),.int .i64 d.trs,.bool false,U,U,.pointer (some ⟨g, 0, none⟩),.pointer (some ⟨g, 0, none⟩),.pointer (some ⟨g, 34, none⟩),.int .i64 d.trs,.int .i64 (d.trs + 1),.pointer (some ⟨g, 0, none⟩),.pointer (some ⟨g, 34, none⟩),.pointer (some ⟨g, 0, none⟩),.pointer (some ⟨g, 0, none⟩),.pointer (some ⟨g, 0, none⟩),.pointer (some ⟨g, 0, none⟩),.pointer (some ⟨g, 0, none⟩),.pointer (some ⟨g, 19, none⟩),.agg #[.bool d.rA, .int .i64 d.rS, .int .i64 d.rV, .int .i64 d.rD],.agg #[.bool d.rA, .int .i64 d.rS, .int .i64 d.rV, .int .i64 rd],.pointer (some ⟨g, 0, none⟩),.pointer (some ⟨g, 0, none⟩),.pointer (some ⟨g, 23, none⟩),.agg #[.int .i64 d.cX, .int .i64 d.cT, .int .i64 d.cD, .bool d.cF, .int .u32 d.cR],.pointer (some ⟨g, 0, none⟩),.pointer (some ⟨g, 0, none⟩),.agg (cnCells { d with trs := (d.trs + 1) }),.int .i64 uw,.agg #[.int .i64 100, .int .i64 ct, .int .i64 0, .bool false, .int .u32 0],.pointer (some ⟨g, 0, none⟩),.pointer (some ⟨g, 19, none⟩),.pointer (some ⟨g, 0, none⟩),.pointer (some ⟨g, 23, none⟩),.pointer (some ⟨g, 0, none⟩),.pointer (some ⟨g, 28, none⟩),.pointer (some ⟨g, 0, none⟩),.pointer (some ⟨g, 0, none⟩),.int .i64 (now + waitOf d.rA d.rS d.rV rd),.pointer (some ⟨g, 0, none⟩),.pointer (some ⟨g, 31, none⟩),.pointer (some ⟨g, 0, none⟩),.pointer (some ⟨g, 0, none⟩),.pointer (some ⟨g, 0, none⟩),.int .i64 d.st,U,U,.bool true,.bool false,.bool true,.pointer (some ⟨g, 0, none⟩),.pointer (some ⟨g, 0, none⟩),.agg (cnCells { d with trs := (d.trs + 1), rD := rd, cX := 100, cT := ct, cD := 0, cF := false, cR := 0, tmg := false, agn := (now + waitOf d.rA d.rS d.rV rd) }),.agg (sgCells ⟨0, 0, d.iss, d.iN, 18, d.iR, 100, ByteArray.empty⟩),U,U,U,U,U,U,U,U,U,U] ?_
          go_upto_region 11 with (fail)
          refine vR ?_
          refine vV (.pointer (some ⟨g, 0, none⟩)) ?_
          refine vV (.pointer (some ⟨g, 0, none⟩)) ?_
          refine vV (.pointer (some ⟨g, 11, none⟩)) ?_
          refine vP pIn_big qB10 11 [.int .u32 d.iN, .string d.iD, .slice d.pa d.pn d.pc, .int .i64 d.iR] ?_
          refine vK (hrm _ (rd_of pa P)) ?_
          intro qw19 qg20
          replace qB10 := qB10.since qg20
          replace qB18 := qB18.since qg20
          replace L := L.since qg20
          replace P := P.since qg20
          replace G := G.trans qg20
          have qg20_s := qg20.size
          refine vV (.pointer (some ⟨qw11.heap.size, 5, none⟩)) ?_
          refine sC (sgCells ⟨0, 0, d.iss, d.iN, 18, rm, 100, ByteArray.empty⟩) qB18 5 (.int .i64 rm) rfl ?_
          intro qw21 qt22 qB23
          clear qB18
          replace qB10 := qB10.touch qt22 (by omega)
          replace L := L.touch qt22 (by omega)
          replace P := P.touch qt22 (by omega)
          replace G := G.touch qt22 (by omega)
          have qt22_s := qt22.size
          refine vE #[.pointer (some ⟨g, 0, none⟩),U,.pointer (some ⟨g, 0, none⟩),.pointer (some ⟨qw11.heap.size, 0, none⟩),.pointer (some ⟨g, 0, none⟩),.pointer (some ⟨g, 0, none⟩),.pointer (some ⟨g, 0, none⟩),.pointer (some ⟨g, 0, none⟩),.pointer (some ⟨g, 0, none⟩),.pointer (some ⟨g, 34, none⟩),.int .i64 d.trs,.bool false,U,U,.pointer (some ⟨g, 0, none⟩),.pointer (some ⟨g, 0, none⟩),.pointer (some ⟨g, 34, none⟩),.int .i64 d.trs,.int .i64 (d.trs + 1),.pointer (some ⟨g, 0, none⟩),.pointer (some ⟨g, 34, none⟩),.pointer (some ⟨g, 0, none⟩),.pointer (some ⟨g, 0, none⟩),.pointer (some ⟨g, 0, none⟩),.pointer (some ⟨g, 0, none⟩),.pointer (some ⟨g, 0, none⟩),.pointer (some ⟨g, 19, none⟩),.agg #[.bool d.rA, .int .i64 d.rS, .int .i64 d.rV, .int .i64 d.rD],.agg #[.bool d.rA, .int .i64 d.rS, .int .i64 d.rV, .int .i64 rd],.pointer (some ⟨g, 0, none⟩),.pointer (some ⟨g, 0, none⟩),.pointer (some ⟨g, 23, none⟩),.agg #[.int .i64 d.cX, .int .i64 d.cT, .int .i64 d.cD, .bool d.cF, .int .u32 d.cR],.pointer (some ⟨g, 0, none⟩),.pointer (some ⟨g, 0, none⟩),.agg (cnCells { d with trs := (d.trs + 1) }),.int .i64 uw,.agg #[.int .i64 100, .int .i64 ct, .int .i64 0, .bool false, .int .u32 0],.pointer (some ⟨g, 0, none⟩),.pointer (some ⟨g, 19, none⟩),.pointer (some ⟨g, 0, none⟩),.pointer (some ⟨g, 23, none⟩),.pointer (some ⟨g, 0, none⟩),.pointer (some ⟨g, 28, none⟩),.pointer (some ⟨g, 0, none⟩),.pointer (some ⟨g, 0, none⟩),.int .i64 (now + waitOf d.rA d.rS d.rV rd),.pointer (some ⟨g, 0, none⟩),.pointer (some ⟨g, 31, none⟩),.pointer (some ⟨g, 0, none⟩),.pointer (some ⟨g, 0, none⟩),.pointer (some ⟨g, 0, none⟩),.int .i64 d.st,U,U,.bool true,.bool false,.bool true,.pointer (some ⟨g, 0, none⟩),.pointer (some ⟨g, 0, none⟩),.agg (cnCells { d with trs := (d.trs + 1), rD := rd, cX := 100, cT := ct, cD := 0, cF := false, cR := 0, tmg := false, agn := (now + waitOf d.rA d.rS d.rV rd) }),.agg (sgCells ⟨0, 0, d.iss, d.iN, 18, d.iR, 100, ByteArray.empty⟩),.pointer (some ⟨g, 0, none⟩),.pointer (some ⟨g, 0, none⟩),.pointer (some ⟨g, 11, none⟩),.agg #[.int .u32 d.iN, .string d.iD, .slice d.pa d.pn d.pc, .int .i64 d.iR],.int .i64 rm,.pointer (some ⟨qw11.heap.size, 5, none⟩),U,U,U,U] ?_
          go_upto_region 12 with (fail)
          refine vR ?_
          refine vV (.pointer (some ⟨g, 0, none⟩)) ?_
          refine vB seg_big qB23 rfl ?_
          refine vW (qw21.alloc (.cells (sgCells ⟨0, 0, d.iss, d.iN, 18, rm, 100, ByteArray.empty⟩) 61)) (.slice (some ⟨qw21.heap.size, 0, none⟩) 1 1) ?_
          have qL25 := heldG1 qw21 (⟨0, 0, d.iss, d.iN, 18, rm, 100, ByteArray.empty⟩)
          have qg26 := (Since.refl qw21).alloc (.cells (sgCells ⟨0, 0, d.iss, d.iN, 18, rm, 100, ByteArray.empty⟩) 61)
          replace qB10 := qB10.since qg26
          replace qB23 := qB23.since qg26
          replace L := L.since qg26
          replace P := P.since qg26
          replace G := G.trans qg26
          generalize qw21.alloc (.cells (sgCells ⟨0, 0, d.iss, d.iN, 18, rm, 100, ByteArray.empty⟩) 61) = qw24 at qB10 qB23 L P G qL25 qg26 ⊢
          have qg26_s := qg26.size
          have qL25_l := qL25.lt
          refine vC (implSends _ _ _ _ _ _ _ _ _ _ ⟨0, 0, d.iss, d.iN, 18, rm, 100, ByteArray.empty⟩ _ hn _ ⟨qB10, L, P, pa, lo, (by omega), (by omega), (by omega)⟩ (qL25.raise (by omega)) (by omega)) ?_
          rintro _ qw27 ⟨rfl, ⟨gsqk29, nqk29, cqk29, ⟨Aqk29, Lqk29, Pqk29, paqk29, loqk29, iqk29, jqk29, lqk29⟩⟩, qh28⟩
          refine ⟨_, rfl, ?_⟩
          clear qB10 L P
          clear qB23
          replace G := G.base qh28
          have qh28_s := qh28.size
          have Aqk29_l := Aqk29.lt
          have Lqk29_l := Lqk29.lt
          have Lqk29_o := Lqk29.low'
          have Pqk29_l := Pqk29.lt
          refine vE #[.pointer (some ⟨g, 0, none⟩),U,.pointer (some ⟨g, 0, none⟩),.pointer (some ⟨qw11.heap.size, 0, none⟩),.pointer (some ⟨g, 0, none⟩),.pointer (some ⟨g, 0, none⟩),.pointer (some ⟨g, 0, none⟩),.pointer (some ⟨g, 0, none⟩),.pointer (some ⟨g, 0, none⟩),.pointer (some ⟨g, 34, none⟩),.int .i64 d.trs,.bool false,U,U,.pointer (some ⟨g, 0, none⟩),.pointer (some ⟨g, 0, none⟩),.pointer (some ⟨g, 34, none⟩),.int .i64 d.trs,.int .i64 (d.trs + 1),.pointer (some ⟨g, 0, none⟩),.pointer (some ⟨g, 34, none⟩),.pointer (some ⟨g, 0, none⟩),.pointer (some ⟨g, 0, none⟩),.pointer (some ⟨g, 0, none⟩),.pointer (some ⟨g, 0, none⟩),.pointer (some ⟨g, 0, none⟩),.pointer (some ⟨g, 19, none⟩),.agg #[.bool d.rA, .int .i64 d.rS, .int .i64 d.rV, .int .i64 d.rD],.agg #[.bool d.rA, .int .i64 d.rS, .int .i64 d.rV, .int .i64 rd],.pointer (some ⟨g, 0, none⟩),.pointer (some ⟨g, 0, none⟩),.pointer (some ⟨g, 23, none⟩),.agg #[.int .i64 d.cX, .int .i64 d.cT, .int .i64 d.cD, .bool d.cF, .int .u32 d.cR],.pointer (some ⟨g, 0, none⟩),.pointer (some ⟨g, 0, none⟩),.agg (cnCells { d with trs := (d.trs + 1) }),.int .i64 uw,.agg #[.int .i64 100, .int .i64 ct, .int .i64 0, .bool false, .int .u32 0],.pointer (some ⟨g, 0, none⟩),.pointer (some ⟨g, 19, none⟩),.pointer (some ⟨g, 0, none⟩),.pointer (some ⟨g, 23, none⟩),.pointer (some ⟨g, 0, none⟩),.pointer (some ⟨g, 28, none⟩),.pointer (some ⟨g, 0, none⟩),.pointer (some ⟨g, 0, none⟩),.int .i64 (now + waitOf d.rA d.rS d.rV rd),.pointer (some ⟨g, 0, none⟩),.pointer (some ⟨g, 31, none⟩),.pointer (some ⟨g, 0, none⟩),.pointer (some ⟨g, 0, none⟩),.pointer (some ⟨g, 0, none⟩),.int .i64 d.st,U,U,.bool true,.bool false,.bool true,.pointer (some ⟨g, 0, none⟩),.pointer (some ⟨g, 0, none⟩),.agg (cnCells { d with trs := (d.trs + 1), rD := rd, cX := 100, cT := ct, cD := 0, cF := false, cR := 0, tmg := false, agn := (now + waitOf d.rA d.rS d.rV rd) }),.agg (sgCells ⟨0, 0, d.iss, d.iN, 18, d.iR, 100, ByteArray.empty⟩),.pointer (some ⟨g, 0, none⟩),.pointer (some ⟨g, 0, none⟩),.pointer (some ⟨g, 11, none⟩),.agg #[.int .u32 d.iN, .string d.iD, .slice d.pa d.pn d.pc, .int .i64 d.iR],.int .i64 rm,.pointer (some ⟨qw11.heap.size, 5, none⟩),.pointer (some ⟨g, 0, none⟩),.agg (sgCells ⟨0, 0, d.iss, d.iN, 18, rm, 100, ByteArray.empty⟩),.slice (some ⟨qw21.heap.size, 0, none⟩) 1 1,.tuple #[]] ?_
          rw [← hps.out] at Lqk29
          go_wp2_with (fail)
          refine bodyPost_end (v := .tuple #[]) (results_none rfl _ _ _) rfl ⟨rfl, ?_, G⟩
          rw [hXs.out]
          show ActsX B g pg now ps (triedC d now) (xs ++ [synSg (triedC d now) ps]) _
          rw [htC.out]
          rw [htC.out] at Lqk29
          exact ⟨_, _, _, ⟨Aqk29, Lqk29, Pqk29, paqk29, loqk29, (by omega), (by omega), (by omega)⟩⟩
        case false =>
          have hXs : Hid (againX ps now d xs = backX ps now { d with trs := (d.trs + 1), rD := rd, cX := 100, cT := ct, cD := 0, cF := false, cR := 0, tmg := false, agn := (now + waitOf d.rA d.rS d.rV rd) } xs) := by
            show _ = _
            rw [hX.out, if_neg (by have q1 := h1_.out; have q2 := h2_.out; intro q; rcases q with q | q <;> simp [q] at q1 q2), htC.out]
          refine vR ?_
          refine vV (.pointer (some ⟨g, 0, none⟩)) ?_
          refine vV (.pointer (some ⟨g, 0, none⟩)) ?_
          refine vV (.pointer (some ⟨g, 0, none⟩)) ?_
          refine vD (.int .i64 d.st) (qB10.cell 0) ?_
          refine vE #[.pointer (some ⟨g, 0, none⟩),U,.pointer (some ⟨g, 0, none⟩),U,.pointer (some ⟨g, 0, none⟩),.pointer (some ⟨g, 0, none⟩),.pointer (some ⟨g, 0, none⟩),.pointer (some ⟨g, 0, none⟩),.pointer (some ⟨g, 0, none⟩),.pointer (some ⟨g, 34, none⟩),.int .i64 d.trs,.bool false,U,U,.pointer (some ⟨g, 0, none⟩),.pointer (some ⟨g, 0, none⟩),.pointer (some ⟨g, 34, none⟩),.int .i64 d.trs,.int .i64 (d.trs + 1),.pointer (some ⟨g, 0, none⟩),.pointer (some ⟨g, 34, none⟩),.pointer (some ⟨g, 0, none⟩),.pointer (some ⟨g, 0, none⟩),.pointer (some ⟨g, 0, none⟩),.pointer (some ⟨g, 0, none⟩),.pointer (some ⟨g, 0, none⟩),.pointer (some ⟨g, 19, none⟩),.agg #[.bool d.rA, .int .i64 d.rS, .int .i64 d.rV, .int .i64 d.rD],.agg #[.bool d.rA, .int .i64 d.rS, .int .i64 d.rV, .int .i64 rd],.pointer (some ⟨g, 0, none⟩),.pointer (some ⟨g, 0, none⟩),.pointer (some ⟨g, 23, none⟩),.agg #[.int .i64 d.cX, .int .i64 d.cT, .int .i64 d.cD, .bool d.cF, .int .u32 d.cR],.pointer (some ⟨g, 0, none⟩),.pointer (some ⟨g, 0, none⟩),.agg (cnCells { d with trs := (d.trs + 1) }),.int .i64 uw,.agg #[.int .i64 100, .int .i64 ct, .int .i64 0, .bool false, .int .u32 0],.pointer (some ⟨g, 0, none⟩),.pointer (some ⟨g, 19, none⟩),.pointer (some ⟨g, 0, none⟩),.pointer (some ⟨g, 23, none⟩),.pointer (some ⟨g, 0, none⟩),.pointer (some ⟨g, 28, none⟩),.pointer (some ⟨g, 0, none⟩),.pointer (some ⟨g, 0, none⟩),.int .i64 (now + waitOf d.rA d.rS d.rV rd),.pointer (some ⟨g, 0, none⟩),.pointer (some ⟨g, 31, none⟩),.pointer (some ⟨g, 0, none⟩),.pointer (some ⟨g, 0, none⟩),.pointer (some ⟨g, 0, none⟩),.int .i64 d.st,U,U,U,U,U,U,U,U,U,U,U,U,U,U,U,U,U,U,U] ?_
          go_upto_region 8 with (fail)
          refine vR ?_
          refine vV (.bool false) ?_ (hrun := by rw [show false = (d.st == 1) from h1_.out]; kernel_rfl)
          refine vV (.bool false) ?_
          refine vE #[.pointer (some ⟨g, 0, none⟩),U,.pointer (some ⟨g, 0, none⟩),U,.pointer (some ⟨g, 0, none⟩),.pointer (some ⟨g, 0, none⟩),.pointer (some ⟨g, 0, none⟩),.pointer (some ⟨g, 0, none⟩),.pointer (some ⟨g, 0, none⟩),.pointer (some ⟨g, 34, none⟩),.int .i64 d.trs,.bool false,U,U,.pointer (some ⟨g, 0, none⟩),.pointer (some ⟨g, 0, none⟩),.pointer (some ⟨g, 34, none⟩),.int .i64 d.trs,.int .i64 (d.trs + 1),.pointer (some ⟨g, 0, none⟩),.pointer (some ⟨g, 34, none⟩),.pointer (some ⟨g, 0, none⟩),.pointer (some ⟨g, 0, none⟩),.pointer (some ⟨g, 0, none⟩),.pointer (some ⟨g, 0, none⟩),.pointer (some ⟨g, 0, none⟩),.pointer (some ⟨g, 19, none⟩),.agg #[.bool d.rA, .int .i64 d.rS, .int .i64 d.rV, .int .i64 d.rD],.agg #[.bool d.rA, .int .i64 d.rS, .int .i64 d.rV, .int .i64 rd],.pointer (some ⟨g, 0, none⟩),.pointer (some ⟨g, 0, none⟩),.pointer (some ⟨g, 23, none⟩),.agg #[.int .i64 d.cX, .int .i64 d.cT, .int .i64 d.cD, .bool d.cF, .int .u32 d.cR],.pointer (some ⟨g, 0, none⟩),.pointer (some ⟨g, 0, none⟩),.agg (cnCells { d with trs := (d.trs + 1) }),.int .i64 uw,.agg #[.int .i64 100, .int .i64 ct, .int .i64 0, .bool false, .int .u32 0],.pointer (some ⟨g, 0, none⟩),.pointer (some ⟨g, 19, none⟩),.pointer (some ⟨g, 0, none⟩),.pointer (some ⟨g, 23, none⟩),.pointer (some ⟨g, 0, none⟩),.pointer (some ⟨g, 28, none⟩),.pointer (some ⟨g, 0, none⟩),.pointer (some ⟨g, 0, none⟩),.int .i64 (now + waitOf d.rA d.rS d.rV rd),.pointer (some ⟨g, 0, none⟩),.pointer (some ⟨g, 31, none⟩),.pointer (some ⟨g, 0, none⟩),.pointer (some ⟨g, 0, none⟩),.pointer (some ⟨g, 0, none⟩),.int .i64 d.st,U,U,.bool false,.bool false,U,U,U,U,U,U,U,U,U,U,U,U,U,U,U] ?_
          go_upto_region 9 with (fail)
          refine vR ?_
          refine vV (.bool false) ?_ (hrun := by rw [show false = (d.st == 2) from h2_.out]; kernel_rfl)
          refine vV (.bool false) ?_
          refine vE #[.pointer (some ⟨g, 0, none⟩),U,.pointer (some ⟨g, 0, none⟩),U,.pointer (some ⟨g, 0, none⟩),.pointer (some ⟨g, 0, none⟩),.pointer (some ⟨g, 0, none⟩),.pointer (some ⟨g, 0, none⟩),.pointer (some ⟨g, 0, none⟩),.pointer (some ⟨g, 34, none⟩),.int .i64 d.trs,.bool false,U,U,.pointer (some ⟨g, 0, none⟩),.pointer (some ⟨g, 0, none⟩),.pointer (some ⟨g, 34, none⟩),.int .i64 d.trs,.int .i64 (d.trs + 1),.pointer (some ⟨g, 0, none⟩),.pointer (some ⟨g, 34, none⟩),.pointer (some ⟨g, 0, none⟩),.pointer (some ⟨g, 0, none⟩),.pointer (some ⟨g, 0, none⟩),.pointer (some ⟨g, 0, none⟩),.pointer (some ⟨g, 0, none⟩),.pointer (some ⟨g, 19, none⟩),.agg #[.bool d.rA, .int .i64 d.rS, .int .i64 d.rV, .int .i64 d.rD],.agg #[.bool d.rA, .int .i64 d.rS, .int .i64 d.rV, .int .i64 rd],.pointer (some ⟨g, 0, none⟩),.pointer (some ⟨g, 0, none⟩),.pointer (some ⟨g, 23, none⟩),.agg #[.int .i64 d.cX, .int .i64 d.cT, .int .i64 d.cD, .bool d.cF, .int .u32 d.cR],.pointer (some ⟨g, 0, none⟩),.pointer (some ⟨g, 0, none⟩),.agg (cnCells { d with trs := (d.trs + 1) }),.int .i64 uw,.agg #[.int .i64 100, .int .i64 ct, .int .i64 0, .bool false, .int .u32 0],.pointer (some ⟨g, 0, none⟩),.pointer (some ⟨g, 19, none⟩),.pointer (some ⟨g, 0, none⟩),.pointer (some ⟨g, 23, none⟩),.pointer (some ⟨g, 0, none⟩),.pointer (some ⟨g, 28, none⟩),.pointer (some ⟨g, 0, none⟩),.pointer (some ⟨g, 0, none⟩),.int .i64 (now + waitOf d.rA d.rS d.rV rd),.pointer (some ⟨g, 0, none⟩),.pointer (some ⟨g, 31, none⟩),.pointer (some ⟨g, 0, none⟩),.pointer (some ⟨g, 0, none⟩),.pointer (some ⟨g, 0, none⟩),.int .i64 d.st,U,U,.bool false,.bool false,.bool false,U,U,U,U,U,U,U,U,U,U,U,U,U,U] ?_
          go_upto_region 7 with (fail)
          refine vR ?_
          refine vV (.pointer (some ⟨g, 0, none⟩)) ?_
          refine vC (implGoBack _ _ _ _ _ _ _ _ _ _ h0 h1 ms hx _ ⟨qB10, L, P, pa, lo, (by omega), (by omega), (by omega)⟩) ?_
          rintro _ qw11 ⟨rfl, ⟨gsqk13, nqk13, cqk13, ⟨Aqk13, Lqk13, Pqk13, paqk13, loqk13, iqk13, jqk13, lqk13⟩⟩, qh12⟩
          refine ⟨_, rfl, ?_⟩
          clear qB10 L P
          replace G := G.base qh12
          have qh12_s := qh12.size
          have Aqk13_l := Aqk13.lt
          have Lqk13_l := Lqk13.lt
          have Lqk13_o := Lqk13.low'
          have Pqk13_l := Pqk13.lt
          refine vE #[.pointer (some ⟨g, 0, none⟩),U,.pointer (some ⟨g, 0, none⟩),U,.pointer (some ⟨g, 0, none⟩),.pointer (some ⟨g, 0, none⟩),.pointer (some ⟨g, 0, none⟩),.pointer (some ⟨g, 0, none⟩),.pointer (some ⟨g, 0, none⟩),.pointer (some ⟨g, 34, none⟩),.int .i64 d.trs,.bool false,U,U,.pointer (some ⟨g, 0, none⟩),.pointer (some ⟨g, 0, none⟩),.pointer (some ⟨g, 34, none⟩),.int .i64 d.trs,.int .i64 (d.trs + 1),.pointer (some ⟨g, 0, none⟩),.pointer (some ⟨g, 34, none⟩),.pointer (some ⟨g, 0, none⟩),.pointer (some ⟨g, 0, none⟩),.pointer (some ⟨g, 0, none⟩),.pointer (some ⟨g, 0, none⟩),.pointer (some ⟨g, 0, none⟩),.pointer (some ⟨g, 19, none⟩),.agg #[.bool d.rA, .int .i64 d.rS, .int .i64 d.rV, .int .i64 d.rD],.agg #[.bool d.rA, .int .i64 d.rS, .int .i64 d.rV, .int .i64 rd],.pointer (some ⟨g, 0, none⟩),.pointer (some ⟨g, 0, none⟩),.pointer (some ⟨g, 23, none⟩),.agg #[.int .i64 d.cX, .int .i64 d.cT, .int .i64 d.cD, .bool d.cF, .int .u32 d.cR],.pointer (some ⟨g, 0, none⟩),.pointer (some ⟨g, 0, none⟩),.agg (cnCells { d with trs := (d.trs + 1) }),.int .i64 uw,.agg #[.int .i64 100, .int .i64 ct, .int .i64 0, .bool false, .int .u32 0],.pointer (some ⟨g, 0, none⟩),.pointer (some ⟨g, 19, none⟩),.pointer (some ⟨g, 0, none⟩),.pointer (some ⟨g, 23, none⟩),.pointer (some ⟨g, 0, none⟩),.pointer (some ⟨g, 28, none⟩),.pointer (some ⟨g, 0, none⟩),.pointer (some ⟨g, 0, none⟩),.int .i64 (now + waitOf d.rA d.rS d.rV rd),.pointer (some ⟨g, 0, none⟩),.pointer (some ⟨g, 31, none⟩),.pointer (some ⟨g, 0, none⟩),.pointer (some ⟨g, 0, none⟩),.pointer (some ⟨g, 0, none⟩),.int .i64 d.st,.pointer (some ⟨g, 0, none⟩),.tuple #[],.bool false,.bool false,.bool false,U,U,U,U,U,U,U,U,U,U,U,U,U,U] ?_
          go_wp2_with (fail)
          refine bodyPost_end (v := .tuple #[]) (results_none rfl _ _ _) rfl ⟨rfl, ?_, G⟩
          rw [hXs.out]
          exact ⟨_, _, _, ⟨Aqk13, Lqk13, Pqk13, paqk13, loqk13, (by omega), (by omega), (by omega)⟩⟩
end Go.Proofs.YtfenlfijfjcdbaaGreat
