/-
  The laws' functions over ends.
-/
import Derived.Test.YtpkenhcglnognaaConn
import Derived.Test.YtpkenhcglnognaaRttB
import Derived.Test.YtpkenhcglnognaaCong
import Derived.Test.YtpkenhcglnognaaOut
import Derived.Test.YtpkenhcglnognaaPrt
import Derived.Deep.DeepCutAuto
namespace Go.Proofs.Ytpkenhcglnognaa
open Go.ChangeShapes Go.WideShapes Go.ChangeAt Go.RowKit
set_option linter.unusedVariables false
set_option maxRecDepth 10000

set_option maxRecDepth 20000 in
set_option maxHeartbeats 16000000 in
theorem toConn (c : Cn) (ps : List (Int × ByteArray)) (hn : c.pn ≤ 1048576) (w : World) (R : Rd shP w c.pa c.pn ps) :
    Calls Try.prog 45 #[cnVal c] w fun e w' => ∃ g, e = .returned (cnVal { c with pa := some ⟨g, 0, none⟩, pc := c.pn }) ∧ Held shP w' w.heap.size g c.pn c.pn ps ∧ Since w w' := by
  have k1 := fun wx => toOut c.oF c.oD c.oR wx
  have k2 := fun wx Rx => toIn c.iN c.iD c.iR c.pa c.pn c.pc ps hn wx Rx
  have k3 := fun wx => toRtt c.rA c.rS c.rV c.rD wx
  have k4 := fun wx => toCong c.cX c.cT c.cD c.cF c.cR wx
  unfold outVal at k1
  unfold inVal at k2
  unfold rttVal at k3
  unfold congVal at k4
  unfold cnVal
  go_enter Try.func45, Try.ntmps45
  go_upto_region 2 with (fail)
  rw [cn_zero]
  have G := (((Since.refl w).alloc (.cells (cnCells c) 79)).alloc (.cells (cnCells cnZero) 53)).alloc (.cells (cnCells cnZero) 53)
  have A := (Blk.new w (cnCells c) 79).since (((Since.refl _).alloc (.cells (cnCells cnZero) 53)).alloc (.cells (cnCells cnZero) 53))
  have Z := (Blk.new (w.alloc (.cells (cnCells c) 79)) (cnCells cnZero) 53).since ((Since.refl _).alloc (.cells (cnCells cnZero) 53))
  have O := Blk.new ((w.alloc (.cells (cnCells c) 79)).alloc (.cells (cnCells cnZero) 53)) (cnCells cnZero) 53
  simp only [World.size_alloc] at Z O
  generalize ((w.alloc (.cells (cnCells c) 79)).alloc (.cells (cnCells cnZero) 53)).alloc (.cells (cnCells cnZero) 53) = x0 at A Z O G ⊢
  have a0_st : x0.cell? ⟨w.heap.size, 0, none⟩ = some (.int .i64 c.st) := A.cell 0
  have fg00_st : x0.cell? ⟨w.heap.size + 1 + 1, 0, none⟩ = some (.int .i64 cnZero.st) := O.cell 0
  have zg00 := O.fz 0
  obtain ⟨yg00, eg00, tg00, Bg00⟩ := put_cn (c' := { cnZero with st := c.st }) O 0 (.int .i64 c.st) (by decide) rfl
  replace A := A.touch tg00 (by omega)
  replace Z := Z.touch tg00 (by omega)
  replace G := since_touch G tg00 (by omega)
  have a1_iss : yg00.cell? ⟨w.heap.size, 1, none⟩ = some (.int .u32 c.iss) := A.cell 1
  have fg01_iss : yg00.cell? ⟨w.heap.size + 1 + 1, 1, none⟩ = some (.int .u32 cnZero.iss) := Bg00.cell 1
  have zg01 := Bg00.fz 1
  obtain ⟨yg01, eg01, tg01, Bg01⟩ := put_cn (c' := { cnZero with st := c.st, iss := c.iss }) Bg00 1 (.int .u32 c.iss) (by decide) rfl
  replace A := A.touch tg01 (by omega)
  replace Z := Z.touch tg01 (by omega)
  replace G := since_touch G tg01 (by omega)
  have a2_una : yg01.cell? ⟨w.heap.size, 2, none⟩ = some (.int .u32 c.una) := A.cell 2
  have fg02_una : yg01.cell? ⟨w.heap.size + 1 + 1, 2, none⟩ = some (.int .u32 cnZero.una) := Bg01.cell 2
  have zg02 := Bg01.fz 2
  obtain ⟨yg02, eg02, tg02, Bg02⟩ := put_cn (c' := { cnZero with st := c.st, iss := c.iss, una := c.una }) Bg01 2 (.int .u32 c.una) (by decide) rfl
  replace A := A.touch tg02 (by omega)
  replace Z := Z.touch tg02 (by omega)
  replace G := since_touch G tg02 (by omega)
  have a3_nxt : yg02.cell? ⟨w.heap.size, 3, none⟩ = some (.int .u32 c.nxt) := A.cell 3
  have fg03_nxt : yg02.cell? ⟨w.heap.size + 1 + 1, 3, none⟩ = some (.int .u32 cnZero.nxt) := Bg02.cell 3
  have zg03 := Bg02.fz 3
  obtain ⟨yg03, eg03, tg03, Bg03⟩ := put_cn (c' := { cnZero with st := c.st, iss := c.iss, una := c.una, nxt := c.nxt }) Bg02 3 (.int .u32 c.nxt) (by decide) rfl
  replace A := A.touch tg03 (by omega)
  replace Z := Z.touch tg03 (by omega)
  replace G := since_touch G tg03 (by omega)
  have a4_mx : yg03.cell? ⟨w.heap.size, 4, none⟩ = some (.int .u32 c.mx) := A.cell 4
  have fg04_mx : yg03.cell? ⟨w.heap.size + 1 + 1, 4, none⟩ = some (.int .u32 cnZero.mx) := Bg03.cell 4
  have zg04 := Bg03.fz 4
  obtain ⟨yg04, eg04, tg04, Bg04⟩ := put_cn (c' := { cnZero with st := c.st, iss := c.iss, una := c.una, nxt := c.nxt, mx := c.mx }) Bg03 4 (.int .u32 c.mx) (by decide) rfl
  replace A := A.touch tg04 (by omega)
  replace Z := Z.touch tg04 (by omega)
  replace G := since_touch G tg04 (by omega)
  have a5_wnd : yg04.cell? ⟨w.heap.size, 5, none⟩ = some (.int .i64 c.wnd) := A.cell 5
  have fg05_wnd : yg04.cell? ⟨w.heap.size + 1 + 1, 5, none⟩ = some (.int .i64 cnZero.wnd) := Bg04.cell 5
  have zg05 := Bg04.fz 5
  obtain ⟨yg05, eg05, tg05, Bg05⟩ := put_cn (c' := { cnZero with st := c.st, iss := c.iss, una := c.una, nxt := c.nxt, mx := c.mx, wnd := c.wnd }) Bg04 5 (.int .i64 c.wnd) (by decide) rfl
  replace A := A.touch tg05 (by omega)
  replace Z := Z.touch tg05 (by omega)
  replace G := since_touch G tg05 (by omega)
  have a6_wsq : yg05.cell? ⟨w.heap.size, 6, none⟩ = some (.int .u32 c.wsq) := A.cell 6
  have fg06_wsq : yg05.cell? ⟨w.heap.size + 1 + 1, 6, none⟩ = some (.int .u32 cnZero.wsq) := Bg05.cell 6
  have zg06 := Bg05.fz 6
  obtain ⟨yg06, eg06, tg06, Bg06⟩ := put_cn (c' := { cnZero with st := c.st, iss := c.iss, una := c.una, nxt := c.nxt, mx := c.mx, wnd := c.wnd, wsq := c.wsq }) Bg05 6 (.int .u32 c.wsq) (by decide) rfl
  replace A := A.touch tg06 (by omega)
  replace Z := Z.touch tg06 (by omega)
  replace G := since_touch G tg06 (by omega)
  have a7_wak : yg06.cell? ⟨w.heap.size, 7, none⟩ = some (.int .u32 c.wak) := A.cell 7
  have fg07_wak : yg06.cell? ⟨w.heap.size + 1 + 1, 7, none⟩ = some (.int .u32 cnZero.wak) := Bg06.cell 7
  have zg07 := Bg06.fz 7
  obtain ⟨yg07, eg07, tg07, Bg07⟩ := put_cn (c' := { cnZero with st := c.st, iss := c.iss, una := c.una, nxt := c.nxt, mx := c.mx, wnd := c.wnd, wsq := c.wsq, wak := c.wak }) Bg06 7 (.int .u32 c.wak) (by decide) rfl
  replace A := A.touch tg07 (by omega)
  replace Z := Z.touch tg07 (by omega)
  replace G := since_touch G tg07 (by omega)
  go_upto_region 10 with (fail)
  clear O eg00 eg01 eg02 eg03 eg04 eg05 eg06 eg07 Bg00 Bg01 Bg02 Bg03 Bg04 Bg05 Bg06 zg00 zg01 zg02 zg03 zg04 zg05 zg06 zg07 fg00_st fg01_iss fg02_una fg03_nxt fg04_mx fg05_wnd fg06_wsq fg07_wak a0_st a1_iss a2_una a3_nxt a4_mx a5_wnd a6_wsq a7_wak
  have O := Bg07
  clear Bg07
  generalize yg07 = x1 at A Z O G ⊢
  have a_oF : x1.cell? ⟨w.heap.size, 8, none⟩ = some (.int .u32 c.oF) := A.cell 8
  have a_oD : x1.cell? ⟨w.heap.size, 9, none⟩ = some (.string c.oD) := A.cell 9
  have a_oR : x1.cell? ⟨w.heap.size, 10, none⟩ = some (.int .i64 c.oR) := A.cell 10
  go_wp2_with (fail)
  refine (k1 _).mono ?_
  rintro _ x2 ⟨rfl, gg⟩
  clear a_oF a_oD a_oR
  replace A := A.since gg
  replace Z := Z.since gg
  replace O := O.since gg
  replace G := G.trans gg
  clear gg
  have fh20_oF : x2.cell? ⟨w.heap.size + 1 + 1, 8, none⟩ = some (.int .u32 cnZero.oF) := O.cell 8
  have zh20 := O.fz 8
  obtain ⟨yh20, eh20, th20, Bh20⟩ := put_cn (c' := { cnZero with st := c.st, iss := c.iss, una := c.una, nxt := c.nxt, mx := c.mx, wnd := c.wnd, wsq := c.wsq, wak := c.wak, oF := c.oF }) O 8 (.int .u32 c.oF) (by decide) rfl
  replace A := A.touch th20 (by omega)
  replace Z := Z.touch th20 (by omega)
  replace G := since_touch G th20 (by omega)
  have fh21_oD : yh20.cell? ⟨w.heap.size + 1 + 1, 9, none⟩ = some (.string cnZero.oD) := Bh20.cell 9
  have zh21 := Bh20.fz 9
  obtain ⟨yh21, eh21, th21, Bh21⟩ := put_cn (c' := { cnZero with st := c.st, iss := c.iss, una := c.una, nxt := c.nxt, mx := c.mx, wnd := c.wnd, wsq := c.wsq, wak := c.wak, oF := c.oF, oD := c.oD }) Bh20 9 (.string c.oD) (by decide) rfl
  replace A := A.touch th21 (by omega)
  replace Z := Z.touch th21 (by omega)
  replace G := since_touch G th21 (by omega)
  have fh22_oR : yh21.cell? ⟨w.heap.size + 1 + 1, 10, none⟩ = some (.int .i64 cnZero.oR) := Bh21.cell 10
  have zh22 := Bh21.fz 10
  obtain ⟨yh22, eh22, th22, Bh22⟩ := put_cn (c' := { cnZero with st := c.st, iss := c.iss, una := c.una, nxt := c.nxt, mx := c.mx, wnd := c.wnd, wsq := c.wsq, wak := c.wak, oF := c.oF, oD := c.oD, oR := c.oR }) Bh21 10 (.int .i64 c.oR) (by decide) rfl
  replace A := A.touch th22 (by omega)
  replace Z := Z.touch th22 (by omega)
  replace G := since_touch G th22 (by omega)
  go_upto_region 11 with (fail)
  clear O eh20 eh21 eh22 Bh20 Bh21 zh20 zh21 zh22 fh20_oF fh21_oD fh22_oR
  have O := Bh22
  clear Bh22
  generalize yh22 = x3 at A Z O G ⊢
  have a_iN : x3.cell? ⟨w.heap.size, 11, none⟩ = some (.int .u32 c.iN) := A.cell 11
  have a_iD : x3.cell? ⟨w.heap.size, 12, none⟩ = some (.string c.iD) := A.cell 12
  have a_iP : x3.cell? ⟨w.heap.size, 13, none⟩ = some (.slice c.pa c.pn c.pc) := A.cell 13
  have a_iR : x3.cell? ⟨w.heap.size, 14, none⟩ = some (.int .i64 c.iR) := A.cell 14
  go_wp2_with (fail)
  refine (k2 _ (R.since G)).mono ?_
  have hOl := O.lt
  rintro _ x4 ⟨g, rfl, H, gg⟩
  have hgl := H.low'
  clear a_iN a_iD a_iP a_iR
  replace A := A.since gg
  replace Z := Z.since gg
  replace O := O.since gg
  replace G := G.trans gg
  clear gg
  have fh40_iN : x4.cell? ⟨w.heap.size + 1 + 1, 11, none⟩ = some (.int .u32 cnZero.iN) := O.cell 11
  have zh40 := O.fz 11
  obtain ⟨yh40, eh40, th40, Bh40⟩ := put_cn (c' := { cnZero with st := c.st, iss := c.iss, una := c.una, nxt := c.nxt, mx := c.mx, wnd := c.wnd, wsq := c.wsq, wak := c.wak, oF := c.oF, oD := c.oD, oR := c.oR, iN := c.iN }) O 11 (.int .u32 c.iN) (by decide) rfl
  replace A := A.touch th40 (by omega)
  replace Z := Z.touch th40 (by omega)
  replace H := H.touch th40 (by omega)
  replace G := since_touch G th40 (by omega)
  have fh41_iD : yh40.cell? ⟨w.heap.size + 1 + 1, 12, none⟩ = some (.string cnZero.iD) := Bh40.cell 12
  have zh41 := Bh40.fz 12
  obtain ⟨yh41, eh41, th41, Bh41⟩ := put_cn (c' := { cnZero with st := c.st, iss := c.iss, una := c.una, nxt := c.nxt, mx := c.mx, wnd := c.wnd, wsq := c.wsq, wak := c.wak, oF := c.oF, oD := c.oD, oR := c.oR, iN := c.iN, iD := c.iD }) Bh40 12 (.string c.iD) (by decide) rfl
  replace A := A.touch th41 (by omega)
  replace Z := Z.touch th41 (by omega)
  replace H := H.touch th41 (by omega)
  replace G := since_touch G th41 (by omega)
  have fh42_iP : yh41.cell? ⟨w.heap.size + 1 + 1, 13, none⟩ = some (.slice cnZero.pa cnZero.pn cnZero.pc) := Bh41.cell 13
  have zh42 := Bh41.fz 13
  obtain ⟨yh42, eh42, th42, Bh42⟩ := put_cn (c' := { cnZero with st := c.st, iss := c.iss, una := c.una, nxt := c.nxt, mx := c.mx, wnd := c.wnd, wsq := c.wsq, wak := c.wak, oF := c.oF, oD := c.oD, oR := c.oR, iN := c.iN, iD := c.iD, pa := some ⟨g, 0, none⟩, pn := c.pn, pc := c.pn }) Bh41 13 (.slice (some ⟨g, 0, none⟩) (c.pn) (c.pn)) (by decide) rfl
  replace A := A.touch th42 (by omega)
  replace Z := Z.touch th42 (by omega)
  replace H := H.touch th42 (by omega)
  replace G := since_touch G th42 (by omega)
  have fh43_iR : yh42.cell? ⟨w.heap.size + 1 + 1, 14, none⟩ = some (.int .i64 cnZero.iR) := Bh42.cell 14
  have zh43 := Bh42.fz 14
  obtain ⟨yh43, eh43, th43, Bh43⟩ := put_cn (c' := { cnZero with st := c.st, iss := c.iss, una := c.una, nxt := c.nxt, mx := c.mx, wnd := c.wnd, wsq := c.wsq, wak := c.wak, oF := c.oF, oD := c.oD, oR := c.oR, iN := c.iN, iD := c.iD, pa := some ⟨g, 0, none⟩, pn := c.pn, pc := c.pn, iR := c.iR }) Bh42 14 (.int .i64 c.iR) (by decide) rfl
  replace A := A.touch th43 (by omega)
  replace Z := Z.touch th43 (by omega)
  replace H := H.touch th43 (by omega)
  replace G := since_touch G th43 (by omega)
  go_upto_region 12 with (fail)
  clear O eh40 eh41 eh42 eh43 Bh40 Bh41 Bh42 zh40 zh41 zh42 zh43 fh40_iN fh41_iD fh42_iP fh43_iR
  have O := Bh43
  clear Bh43
  generalize yh43 = x5 at A Z O G H ⊢
  have a0_fin : x5.cell? ⟨w.heap.size, 15, none⟩ = some (.bool c.fin) := A.cell 15
  have fg50_fin : x5.cell? ⟨w.heap.size + 1 + 1, 15, none⟩ = some (.bool cnZero.fin) := O.cell 15
  have zg50 := O.fz 15
  obtain ⟨yg50, eg50, tg50, Bg50⟩ := put_cn (c' := { cnZero with st := c.st, iss := c.iss, una := c.una, nxt := c.nxt, mx := c.mx, wnd := c.wnd, wsq := c.wsq, wak := c.wak, oF := c.oF, oD := c.oD, oR := c.oR, iN := c.iN, iD := c.iD, pa := some ⟨g, 0, none⟩, pn := c.pn, pc := c.pn, iR := c.iR, fin := c.fin }) O 15 (.bool c.fin) (by decide) rfl
  replace A := A.touch tg50 (by omega)
  replace Z := Z.touch tg50 (by omega)
  replace H := H.touch tg50 (by omega)
  replace G := since_touch G tg50 (by omega)
  have a1_fsn : yg50.cell? ⟨w.heap.size, 16, none⟩ = some (.bool c.fsn) := A.cell 16
  have fg51_fsn : yg50.cell? ⟨w.heap.size + 1 + 1, 16, none⟩ = some (.bool cnZero.fsn) := Bg50.cell 16
  have zg51 := Bg50.fz 16
  obtain ⟨yg51, eg51, tg51, Bg51⟩ := put_cn (c' := { cnZero with st := c.st, iss := c.iss, una := c.una, nxt := c.nxt, mx := c.mx, wnd := c.wnd, wsq := c.wsq, wak := c.wak, oF := c.oF, oD := c.oD, oR := c.oR, iN := c.iN, iD := c.iD, pa := some ⟨g, 0, none⟩, pn := c.pn, pc := c.pn, iR := c.iR, fin := c.fin, fsn := c.fsn }) Bg50 16 (.bool c.fsn) (by decide) rfl
  replace A := A.touch tg51 (by omega)
  replace Z := Z.touch tg51 (by omega)
  replace H := H.touch tg51 (by omega)
  replace G := since_touch G tg51 (by omega)
  have a2_fsq : yg51.cell? ⟨w.heap.size, 17, none⟩ = some (.int .u32 c.fsq) := A.cell 17
  have fg52_fsq : yg51.cell? ⟨w.heap.size + 1 + 1, 17, none⟩ = some (.int .u32 cnZero.fsq) := Bg51.cell 17
  have zg52 := Bg51.fz 17
  obtain ⟨yg52, eg52, tg52, Bg52⟩ := put_cn (c' := { cnZero with st := c.st, iss := c.iss, una := c.una, nxt := c.nxt, mx := c.mx, wnd := c.wnd, wsq := c.wsq, wak := c.wak, oF := c.oF, oD := c.oD, oR := c.oR, iN := c.iN, iD := c.iD, pa := some ⟨g, 0, none⟩, pn := c.pn, pc := c.pn, iR := c.iR, fin := c.fin, fsn := c.fsn, fsq := c.fsq }) Bg51 17 (.int .u32 c.fsq) (by decide) rfl
  replace A := A.touch tg52 (by omega)
  replace Z := Z.touch tg52 (by omega)
  replace H := H.touch tg52 (by omega)
  replace G := since_touch G tg52 (by omega)
  have a3_gfn : yg52.cell? ⟨w.heap.size, 18, none⟩ = some (.bool c.gfn) := A.cell 18
  have fg53_gfn : yg52.cell? ⟨w.heap.size + 1 + 1, 18, none⟩ = some (.bool cnZero.gfn) := Bg52.cell 18
  have zg53 := Bg52.fz 18
  obtain ⟨yg53, eg53, tg53, Bg53⟩ := put_cn (c' := { cnZero with st := c.st, iss := c.iss, una := c.una, nxt := c.nxt, mx := c.mx, wnd := c.wnd, wsq := c.wsq, wak := c.wak, oF := c.oF, oD := c.oD, oR := c.oR, iN := c.iN, iD := c.iD, pa := some ⟨g, 0, none⟩, pn := c.pn, pc := c.pn, iR := c.iR, fin := c.fin, fsn := c.fsn, fsq := c.fsq, gfn := c.gfn }) Bg52 18 (.bool c.gfn) (by decide) rfl
  replace A := A.touch tg53 (by omega)
  replace Z := Z.touch tg53 (by omega)
  replace H := H.touch tg53 (by omega)
  replace G := since_touch G tg53 (by omega)
  go_upto_region 16 with (fail)
  clear O eg50 eg51 eg52 eg53 Bg50 Bg51 Bg52 zg50 zg51 zg52 zg53 fg50_fin fg51_fsn fg52_fsq fg53_gfn a0_fin a1_fsn a2_fsq a3_gfn
  have O := Bg53
  clear Bg53
  generalize yg53 = x6 at A Z O G H ⊢
  have a_rA : x6.cell? ⟨w.heap.size, 19, none⟩ = some (.bool c.rA) := A.cell 19
  have a_rS : x6.cell? ⟨w.heap.size, 20, none⟩ = some (.int .i64 c.rS) := A.cell 20
  have a_rV : x6.cell? ⟨w.heap.size, 21, none⟩ = some (.int .i64 c.rV) := A.cell 21
  have a_rD : x6.cell? ⟨w.heap.size, 22, none⟩ = some (.int .i64 c.rD) := A.cell 22
  go_wp2_with (fail)
  refine (k3 _).mono ?_
  rintro _ x7 ⟨rfl, gg⟩
  clear a_rA a_rS a_rV a_rD
  replace A := A.since gg
  replace Z := Z.since gg
  replace O := O.since gg
  replace G := G.trans gg
  replace H := H.since gg
  clear gg
  have fh70_rA : x7.cell? ⟨w.heap.size + 1 + 1, 19, none⟩ = some (.bool cnZero.rA) := O.cell 19
  have zh70 := O.fz 19
  obtain ⟨yh70, eh70, th70, Bh70⟩ := put_cn (c' := { cnZero with st := c.st, iss := c.iss, una := c.una, nxt := c.nxt, mx := c.mx, wnd := c.wnd, wsq := c.wsq, wak := c.wak, oF := c.oF, oD := c.oD, oR := c.oR, iN := c.iN, iD := c.iD, pa := some ⟨g, 0, none⟩, pn := c.pn, pc := c.pn, iR := c.iR, fin := c.fin, fsn := c.fsn, fsq := c.fsq, gfn := c.gfn, rA := c.rA }) O 19 (.bool c.rA) (by decide) rfl
  replace A := A.touch th70 (by omega)
  replace Z := Z.touch th70 (by omega)
  replace H := H.touch th70 (by omega)
  replace G := since_touch G th70 (by omega)
  have fh71_rS : yh70.cell? ⟨w.heap.size + 1 + 1, 20, none⟩ = some (.int .i64 cnZero.rS) := Bh70.cell 20
  have zh71 := Bh70.fz 20
  obtain ⟨yh71, eh71, th71, Bh71⟩ := put_cn (c' := { cnZero with st := c.st, iss := c.iss, una := c.una, nxt := c.nxt, mx := c.mx, wnd := c.wnd, wsq := c.wsq, wak := c.wak, oF := c.oF, oD := c.oD, oR := c.oR, iN := c.iN, iD := c.iD, pa := some ⟨g, 0, none⟩, pn := c.pn, pc := c.pn, iR := c.iR, fin := c.fin, fsn := c.fsn, fsq := c.fsq, gfn := c.gfn, rA := c.rA, rS := c.rS }) Bh70 20 (.int .i64 c.rS) (by decide) rfl
  replace A := A.touch th71 (by omega)
  replace Z := Z.touch th71 (by omega)
  replace H := H.touch th71 (by omega)
  replace G := since_touch G th71 (by omega)
  have fh72_rV : yh71.cell? ⟨w.heap.size + 1 + 1, 21, none⟩ = some (.int .i64 cnZero.rV) := Bh71.cell 21
  have zh72 := Bh71.fz 21
  obtain ⟨yh72, eh72, th72, Bh72⟩ := put_cn (c' := { cnZero with st := c.st, iss := c.iss, una := c.una, nxt := c.nxt, mx := c.mx, wnd := c.wnd, wsq := c.wsq, wak := c.wak, oF := c.oF, oD := c.oD, oR := c.oR, iN := c.iN, iD := c.iD, pa := some ⟨g, 0, none⟩, pn := c.pn, pc := c.pn, iR := c.iR, fin := c.fin, fsn := c.fsn, fsq := c.fsq, gfn := c.gfn, rA := c.rA, rS := c.rS, rV := c.rV }) Bh71 21 (.int .i64 c.rV) (by decide) rfl
  replace A := A.touch th72 (by omega)
  replace Z := Z.touch th72 (by omega)
  replace H := H.touch th72 (by omega)
  replace G := since_touch G th72 (by omega)
  have fh73_rD : yh72.cell? ⟨w.heap.size + 1 + 1, 22, none⟩ = some (.int .i64 cnZero.rD) := Bh72.cell 22
  have zh73 := Bh72.fz 22
  obtain ⟨yh73, eh73, th73, Bh73⟩ := put_cn (c' := { cnZero with st := c.st, iss := c.iss, una := c.una, nxt := c.nxt, mx := c.mx, wnd := c.wnd, wsq := c.wsq, wak := c.wak, oF := c.oF, oD := c.oD, oR := c.oR, iN := c.iN, iD := c.iD, pa := some ⟨g, 0, none⟩, pn := c.pn, pc := c.pn, iR := c.iR, fin := c.fin, fsn := c.fsn, fsq := c.fsq, gfn := c.gfn, rA := c.rA, rS := c.rS, rV := c.rV, rD := c.rD }) Bh72 22 (.int .i64 c.rD) (by decide) rfl
  replace A := A.touch th73 (by omega)
  replace Z := Z.touch th73 (by omega)
  replace H := H.touch th73 (by omega)
  replace G := since_touch G th73 (by omega)
  go_upto_region 17 with (fail)
  clear O eh70 eh71 eh72 eh73 Bh70 Bh71 Bh72 zh70 zh71 zh72 zh73 fh70_rA fh71_rS fh72_rV fh73_rD
  have O := Bh73
  clear Bh73
  generalize yh73 = x8 at A Z O G H ⊢
  have a_cX : x8.cell? ⟨w.heap.size, 23, none⟩ = some (.int .i64 c.cX) := A.cell 23
  have a_cT : x8.cell? ⟨w.heap.size, 24, none⟩ = some (.int .i64 c.cT) := A.cell 24
  have a_cD : x8.cell? ⟨w.heap.size, 25, none⟩ = some (.int .i64 c.cD) := A.cell 25
  have a_cF : x8.cell? ⟨w.heap.size, 26, none⟩ = some (.bool c.cF) := A.cell 26
  have a_cR : x8.cell? ⟨w.heap.size, 27, none⟩ = some (.int .u32 c.cR) := A.cell 27
  go_wp2_with (fail)
  refine (k4 _).mono ?_
  rintro _ x9 ⟨rfl, gg⟩
  clear a_cX a_cT a_cD a_cF a_cR
  replace A := A.since gg
  replace Z := Z.since gg
  replace O := O.since gg
  replace G := G.trans gg
  replace H := H.since gg
  clear gg
  have fh90_cX : x9.cell? ⟨w.heap.size + 1 + 1, 23, none⟩ = some (.int .i64 cnZero.cX) := O.cell 23
  have zh90 := O.fz 23
  obtain ⟨yh90, eh90, th90, Bh90⟩ := put_cn (c' := { cnZero with st := c.st, iss := c.iss, una := c.una, nxt := c.nxt, mx := c.mx, wnd := c.wnd, wsq := c.wsq, wak := c.wak, oF := c.oF, oD := c.oD, oR := c.oR, iN := c.iN, iD := c.iD, pa := some ⟨g, 0, none⟩, pn := c.pn, pc := c.pn, iR := c.iR, fin := c.fin, fsn := c.fsn, fsq := c.fsq, gfn := c.gfn, rA := c.rA, rS := c.rS, rV := c.rV, rD := c.rD, cX := c.cX }) O 23 (.int .i64 c.cX) (by decide) rfl
  replace A := A.touch th90 (by omega)
  replace Z := Z.touch th90 (by omega)
  replace H := H.touch th90 (by omega)
  replace G := since_touch G th90 (by omega)
  have fh91_cT : yh90.cell? ⟨w.heap.size + 1 + 1, 24, none⟩ = some (.int .i64 cnZero.cT) := Bh90.cell 24
  have zh91 := Bh90.fz 24
  obtain ⟨yh91, eh91, th91, Bh91⟩ := put_cn (c' := { cnZero with st := c.st, iss := c.iss, una := c.una, nxt := c.nxt, mx := c.mx, wnd := c.wnd, wsq := c.wsq, wak := c.wak, oF := c.oF, oD := c.oD, oR := c.oR, iN := c.iN, iD := c.iD, pa := some ⟨g, 0, none⟩, pn := c.pn, pc := c.pn, iR := c.iR, fin := c.fin, fsn := c.fsn, fsq := c.fsq, gfn := c.gfn, rA := c.rA, rS := c.rS, rV := c.rV, rD := c.rD, cX := c.cX, cT := c.cT }) Bh90 24 (.int .i64 c.cT) (by decide) rfl
  replace A := A.touch th91 (by omega)
  replace Z := Z.touch th91 (by omega)
  replace H := H.touch th91 (by omega)
  replace G := since_touch G th91 (by omega)
  have fh92_cD : yh91.cell? ⟨w.heap.size + 1 + 1, 25, none⟩ = some (.int .i64 cnZero.cD) := Bh91.cell 25
  have zh92 := Bh91.fz 25
  obtain ⟨yh92, eh92, th92, Bh92⟩ := put_cn (c' := { cnZero with st := c.st, iss := c.iss, una := c.una, nxt := c.nxt, mx := c.mx, wnd := c.wnd, wsq := c.wsq, wak := c.wak, oF := c.oF, oD := c.oD, oR := c.oR, iN := c.iN, iD := c.iD, pa := some ⟨g, 0, none⟩, pn := c.pn, pc := c.pn, iR := c.iR, fin := c.fin, fsn := c.fsn, fsq := c.fsq, gfn := c.gfn, rA := c.rA, rS := c.rS, rV := c.rV, rD := c.rD, cX := c.cX, cT := c.cT, cD := c.cD }) Bh91 25 (.int .i64 c.cD) (by decide) rfl
  replace A := A.touch th92 (by omega)
  replace Z := Z.touch th92 (by omega)
  replace H := H.touch th92 (by omega)
  replace G := since_touch G th92 (by omega)
  have fh93_cF : yh92.cell? ⟨w.heap.size + 1 + 1, 26, none⟩ = some (.bool cnZero.cF) := Bh92.cell 26
  have zh93 := Bh92.fz 26
  obtain ⟨yh93, eh93, th93, Bh93⟩ := put_cn (c' := { cnZero with st := c.st, iss := c.iss, una := c.una, nxt := c.nxt, mx := c.mx, wnd := c.wnd, wsq := c.wsq, wak := c.wak, oF := c.oF, oD := c.oD, oR := c.oR, iN := c.iN, iD := c.iD, pa := some ⟨g, 0, none⟩, pn := c.pn, pc := c.pn, iR := c.iR, fin := c.fin, fsn := c.fsn, fsq := c.fsq, gfn := c.gfn, rA := c.rA, rS := c.rS, rV := c.rV, rD := c.rD, cX := c.cX, cT := c.cT, cD := c.cD, cF := c.cF }) Bh92 26 (.bool c.cF) (by decide) rfl
  replace A := A.touch th93 (by omega)
  replace Z := Z.touch th93 (by omega)
  replace H := H.touch th93 (by omega)
  replace G := since_touch G th93 (by omega)
  have fh94_cR : yh93.cell? ⟨w.heap.size + 1 + 1, 27, none⟩ = some (.int .u32 cnZero.cR) := Bh93.cell 27
  have zh94 := Bh93.fz 27
  obtain ⟨yh94, eh94, th94, Bh94⟩ := put_cn (c' := { cnZero with st := c.st, iss := c.iss, una := c.una, nxt := c.nxt, mx := c.mx, wnd := c.wnd, wsq := c.wsq, wak := c.wak, oF := c.oF, oD := c.oD, oR := c.oR, iN := c.iN, iD := c.iD, pa := some ⟨g, 0, none⟩, pn := c.pn, pc := c.pn, iR := c.iR, fin := c.fin, fsn := c.fsn, fsq := c.fsq, gfn := c.gfn, rA := c.rA, rS := c.rS, rV := c.rV, rD := c.rD, cX := c.cX, cT := c.cT, cD := c.cD, cF := c.cF, cR := c.cR }) Bh93 27 (.int .u32 c.cR) (by decide) rfl
  replace A := A.touch th94 (by omega)
  replace Z := Z.touch th94 (by omega)
  replace H := H.touch th94 (by omega)
  replace G := since_touch G th94 (by omega)
  go_upto_region 18 with (fail)
  clear O eh90 eh91 eh92 eh93 eh94 Bh90 Bh91 Bh92 Bh93 zh90 zh91 zh92 zh93 zh94 fh90_cX fh91_cT fh92_cD fh93_cF fh94_cR
  have O := Bh94
  clear Bh94
  generalize yh94 = x10 at A Z O G H ⊢
  have a0_tmg : x10.cell? ⟨w.heap.size, 28, none⟩ = some (.bool c.tmg) := A.cell 28
  have fg100_tmg : x10.cell? ⟨w.heap.size + 1 + 1, 28, none⟩ = some (.bool cnZero.tmg) := O.cell 28
  have zg100 := O.fz 28
  obtain ⟨yg100, eg100, tg100, Bg100⟩ := put_cn (c' := { cnZero with st := c.st, iss := c.iss, una := c.una, nxt := c.nxt, mx := c.mx, wnd := c.wnd, wsq := c.wsq, wak := c.wak, oF := c.oF, oD := c.oD, oR := c.oR, iN := c.iN, iD := c.iD, pa := some ⟨g, 0, none⟩, pn := c.pn, pc := c.pn, iR := c.iR, fin := c.fin, fsn := c.fsn, fsq := c.fsq, gfn := c.gfn, rA := c.rA, rS := c.rS, rV := c.rV, rD := c.rD, cX := c.cX, cT := c.cT, cD := c.cD, cF := c.cF, cR := c.cR, tmg := c.tmg }) O 28 (.bool c.tmg) (by decide) rfl
  replace A := A.touch tg100 (by omega)
  replace Z := Z.touch tg100 (by omega)
  replace H := H.touch tg100 (by omega)
  replace G := since_touch G tg100 (by omega)
  have a1_tsq : yg100.cell? ⟨w.heap.size, 29, none⟩ = some (.int .u32 c.tsq) := A.cell 29
  have fg101_tsq : yg100.cell? ⟨w.heap.size + 1 + 1, 29, none⟩ = some (.int .u32 cnZero.tsq) := Bg100.cell 29
  have zg101 := Bg100.fz 29
  obtain ⟨yg101, eg101, tg101, Bg101⟩ := put_cn (c' := { cnZero with st := c.st, iss := c.iss, una := c.una, nxt := c.nxt, mx := c.mx, wnd := c.wnd, wsq := c.wsq, wak := c.wak, oF := c.oF, oD := c.oD, oR := c.oR, iN := c.iN, iD := c.iD, pa := some ⟨g, 0, none⟩, pn := c.pn, pc := c.pn, iR := c.iR, fin := c.fin, fsn := c.fsn, fsq := c.fsq, gfn := c.gfn, rA := c.rA, rS := c.rS, rV := c.rV, rD := c.rD, cX := c.cX, cT := c.cT, cD := c.cD, cF := c.cF, cR := c.cR, tmg := c.tmg, tsq := c.tsq }) Bg100 29 (.int .u32 c.tsq) (by decide) rfl
  replace A := A.touch tg101 (by omega)
  replace Z := Z.touch tg101 (by omega)
  replace H := H.touch tg101 (by omega)
  replace G := since_touch G tg101 (by omega)
  have a2_tat : yg101.cell? ⟨w.heap.size, 30, none⟩ = some (.int .i64 c.tat) := A.cell 30
  have fg102_tat : yg101.cell? ⟨w.heap.size + 1 + 1, 30, none⟩ = some (.int .i64 cnZero.tat) := Bg101.cell 30
  have zg102 := Bg101.fz 30
  obtain ⟨yg102, eg102, tg102, Bg102⟩ := put_cn (c' := { cnZero with st := c.st, iss := c.iss, una := c.una, nxt := c.nxt, mx := c.mx, wnd := c.wnd, wsq := c.wsq, wak := c.wak, oF := c.oF, oD := c.oD, oR := c.oR, iN := c.iN, iD := c.iD, pa := some ⟨g, 0, none⟩, pn := c.pn, pc := c.pn, iR := c.iR, fin := c.fin, fsn := c.fsn, fsq := c.fsq, gfn := c.gfn, rA := c.rA, rS := c.rS, rV := c.rV, rD := c.rD, cX := c.cX, cT := c.cT, cD := c.cD, cF := c.cF, cR := c.cR, tmg := c.tmg, tsq := c.tsq, tat := c.tat }) Bg101 30 (.int .i64 c.tat) (by decide) rfl
  replace A := A.touch tg102 (by omega)
  replace Z := Z.touch tg102 (by omega)
  replace H := H.touch tg102 (by omega)
  replace G := since_touch G tg102 (by omega)
  have a3_agn : yg102.cell? ⟨w.heap.size, 31, none⟩ = some (.int .i64 c.agn) := A.cell 31
  have fg103_agn : yg102.cell? ⟨w.heap.size + 1 + 1, 31, none⟩ = some (.int .i64 cnZero.agn) := Bg102.cell 31
  have zg103 := Bg102.fz 31
  obtain ⟨yg103, eg103, tg103, Bg103⟩ := put_cn (c' := { cnZero with st := c.st, iss := c.iss, una := c.una, nxt := c.nxt, mx := c.mx, wnd := c.wnd, wsq := c.wsq, wak := c.wak, oF := c.oF, oD := c.oD, oR := c.oR, iN := c.iN, iD := c.iD, pa := some ⟨g, 0, none⟩, pn := c.pn, pc := c.pn, iR := c.iR, fin := c.fin, fsn := c.fsn, fsq := c.fsq, gfn := c.gfn, rA := c.rA, rS := c.rS, rV := c.rV, rD := c.rD, cX := c.cX, cT := c.cT, cD := c.cD, cF := c.cF, cR := c.cR, tmg := c.tmg, tsq := c.tsq, tat := c.tat, agn := c.agn }) Bg102 31 (.int .i64 c.agn) (by decide) rfl
  replace A := A.touch tg103 (by omega)
  replace Z := Z.touch tg103 (by omega)
  replace H := H.touch tg103 (by omega)
  replace G := since_touch G tg103 (by omega)
  have a4_prb : yg103.cell? ⟨w.heap.size, 32, none⟩ = some (.int .i64 c.prb) := A.cell 32
  have fg104_prb : yg103.cell? ⟨w.heap.size + 1 + 1, 32, none⟩ = some (.int .i64 cnZero.prb) := Bg103.cell 32
  have zg104 := Bg103.fz 32
  obtain ⟨yg104, eg104, tg104, Bg104⟩ := put_cn (c' := { cnZero with st := c.st, iss := c.iss, una := c.una, nxt := c.nxt, mx := c.mx, wnd := c.wnd, wsq := c.wsq, wak := c.wak, oF := c.oF, oD := c.oD, oR := c.oR, iN := c.iN, iD := c.iD, pa := some ⟨g, 0, none⟩, pn := c.pn, pc := c.pn, iR := c.iR, fin := c.fin, fsn := c.fsn, fsq := c.fsq, gfn := c.gfn, rA := c.rA, rS := c.rS, rV := c.rV, rD := c.rD, cX := c.cX, cT := c.cT, cD := c.cD, cF := c.cF, cR := c.cR, tmg := c.tmg, tsq := c.tsq, tat := c.tat, agn := c.agn, prb := c.prb }) Bg103 32 (.int .i64 c.prb) (by decide) rfl
  replace A := A.touch tg104 (by omega)
  replace Z := Z.touch tg104 (by omega)
  replace H := H.touch tg104 (by omega)
  replace G := since_touch G tg104 (by omega)
  have a5_rst : yg104.cell? ⟨w.heap.size, 33, none⟩ = some (.int .i64 c.rst) := A.cell 33
  have fg105_rst : yg104.cell? ⟨w.heap.size + 1 + 1, 33, none⟩ = some (.int .i64 cnZero.rst) := Bg104.cell 33
  have zg105 := Bg104.fz 33
  obtain ⟨yg105, eg105, tg105, Bg105⟩ := put_cn (c' := { cnZero with st := c.st, iss := c.iss, una := c.una, nxt := c.nxt, mx := c.mx, wnd := c.wnd, wsq := c.wsq, wak := c.wak, oF := c.oF, oD := c.oD, oR := c.oR, iN := c.iN, iD := c.iD, pa := some ⟨g, 0, none⟩, pn := c.pn, pc := c.pn, iR := c.iR, fin := c.fin, fsn := c.fsn, fsq := c.fsq, gfn := c.gfn, rA := c.rA, rS := c.rS, rV := c.rV, rD := c.rD, cX := c.cX, cT := c.cT, cD := c.cD, cF := c.cF, cR := c.cR, tmg := c.tmg, tsq := c.tsq, tat := c.tat, agn := c.agn, prb := c.prb, rst := c.rst }) Bg104 33 (.int .i64 c.rst) (by decide) rfl
  replace A := A.touch tg105 (by omega)
  replace Z := Z.touch tg105 (by omega)
  replace H := H.touch tg105 (by omega)
  replace G := since_touch G tg105 (by omega)
  have a6_trs : yg105.cell? ⟨w.heap.size, 34, none⟩ = some (.int .i64 c.trs) := A.cell 34
  have fg106_trs : yg105.cell? ⟨w.heap.size + 1 + 1, 34, none⟩ = some (.int .i64 cnZero.trs) := Bg105.cell 34
  have zg106 := Bg105.fz 34
  obtain ⟨yg106, eg106, tg106, Bg106⟩ := put_cn (c' := { cnZero with st := c.st, iss := c.iss, una := c.una, nxt := c.nxt, mx := c.mx, wnd := c.wnd, wsq := c.wsq, wak := c.wak, oF := c.oF, oD := c.oD, oR := c.oR, iN := c.iN, iD := c.iD, pa := some ⟨g, 0, none⟩, pn := c.pn, pc := c.pn, iR := c.iR, fin := c.fin, fsn := c.fsn, fsq := c.fsq, gfn := c.gfn, rA := c.rA, rS := c.rS, rV := c.rV, rD := c.rD, cX := c.cX, cT := c.cT, cD := c.cD, cF := c.cF, cR := c.cR, tmg := c.tmg, tsq := c.tsq, tat := c.tat, agn := c.agn, prb := c.prb, rst := c.rst, trs := c.trs }) Bg105 34 (.int .i64 c.trs) (by decide) rfl
  replace A := A.touch tg106 (by omega)
  replace Z := Z.touch tg106 (by omega)
  replace H := H.touch tg106 (by omega)
  replace G := since_touch G tg106 (by omega)
  have a7_why : yg106.cell? ⟨w.heap.size, 35, none⟩ = some (.int .i64 c.why) := A.cell 35
  have fg107_why : yg106.cell? ⟨w.heap.size + 1 + 1, 35, none⟩ = some (.int .i64 cnZero.why) := Bg106.cell 35
  have zg107 := Bg106.fz 35
  obtain ⟨yg107, eg107, tg107, Bg107⟩ := put_cn (c' := { cnZero with st := c.st, iss := c.iss, una := c.una, nxt := c.nxt, mx := c.mx, wnd := c.wnd, wsq := c.wsq, wak := c.wak, oF := c.oF, oD := c.oD, oR := c.oR, iN := c.iN, iD := c.iD, pa := some ⟨g, 0, none⟩, pn := c.pn, pc := c.pn, iR := c.iR, fin := c.fin, fsn := c.fsn, fsq := c.fsq, gfn := c.gfn, rA := c.rA, rS := c.rS, rV := c.rV, rD := c.rD, cX := c.cX, cT := c.cT, cD := c.cD, cF := c.cF, cR := c.cR, tmg := c.tmg, tsq := c.tsq, tat := c.tat, agn := c.agn, prb := c.prb, rst := c.rst, trs := c.trs, why := c.why }) Bg106 35 (.int .i64 c.why) (by decide) rfl
  replace A := A.touch tg107 (by omega)
  replace Z := Z.touch tg107 (by omega)
  replace H := H.touch tg107 (by omega)
  replace G := since_touch G tg107 (by omega)
  have a8_owe : yg107.cell? ⟨w.heap.size, 36, none⟩ = some (.bool c.owe) := A.cell 36
  have fg108_owe : yg107.cell? ⟨w.heap.size + 1 + 1, 36, none⟩ = some (.bool cnZero.owe) := Bg107.cell 36
  have zg108 := Bg107.fz 36
  obtain ⟨yg108, eg108, tg108, Bg108⟩ := put_cn (c' := { cnZero with st := c.st, iss := c.iss, una := c.una, nxt := c.nxt, mx := c.mx, wnd := c.wnd, wsq := c.wsq, wak := c.wak, oF := c.oF, oD := c.oD, oR := c.oR, iN := c.iN, iD := c.iD, pa := some ⟨g, 0, none⟩, pn := c.pn, pc := c.pn, iR := c.iR, fin := c.fin, fsn := c.fsn, fsq := c.fsq, gfn := c.gfn, rA := c.rA, rS := c.rS, rV := c.rV, rD := c.rD, cX := c.cX, cT := c.cT, cD := c.cD, cF := c.cF, cR := c.cR, tmg := c.tmg, tsq := c.tsq, tat := c.tat, agn := c.agn, prb := c.prb, rst := c.rst, trs := c.trs, why := c.why, owe := c.owe }) Bg107 36 (.bool c.owe) (by decide) rfl
  replace A := A.touch tg108 (by omega)
  replace Z := Z.touch tg108 (by omega)
  replace H := H.touch tg108 (by omega)
  replace G := since_touch G tg108 (by omega)
  go_upto_region 27 with (fail)
  clear O eg100 eg101 eg102 eg103 eg104 eg105 eg106 eg107 eg108 Bg100 Bg101 Bg102 Bg103 Bg104 Bg105 Bg106 Bg107 zg100 zg101 zg102 zg103 zg104 zg105 zg106 zg107 zg108 fg100_tmg fg101_tsq fg102_tat fg103_agn fg104_prb fg105_rst fg106_trs fg107_why fg108_owe a0_tmg a1_tsq a2_tat a3_agn a4_prb a5_rst a6_trs a7_why a8_owe
  have O := Bg108
  clear Bg108
  generalize yg108 = x11 at A Z O G H ⊢
  refine wp_region_lit ?_
  refine load_cn O rfl _ rfl rfl ?_
  refine store_cn Z rfl _ _ rfl rfl rfl ?_
  intro z tz Bz
  replace G := since_touch G tz (by omega)
  replace H := H.touch tz (by omega)
  go_wp2_with (fail)
  exact bodyPost_ret (results_cn (t := 2) rfl _ rfl Bz) rfl ⟨g, rfl, H.raise (by omega), G⟩

set_option maxRecDepth 20000 in
set_option maxHeartbeats 16000000 in
theorem eqConn (c : Cn) (a' : Option Addr) (p' : Nat) (ps : List (Int × ByteArray)) (hn : c.pn ≤ 1048576) (w : World) (R : Rd shP w c.pa c.pn ps) (Q : Rd shP w a' c.pn ps) :
    Calls Try.prog 53 #[cnVal c, cnVal { c with pa := a', pc := p' }] w fun e w' => e = .returned (.bool true) ∧ Since w w' := by
  have k1 := fun wx => eqOut c.oF c.oD c.oR wx
  have k2 := fun wx Rx Qx => eqIn c.iN c.iD c.iR c.pa a' c.pn c.pc p' ps hn wx Rx Qx
  have k3 := fun wx => eqRtt c.rA c.rS c.rV c.rD wx
  have k4 := fun wx => eqCong c.cX c.cT c.cD c.cF c.cR wx
  unfold outVal at k1
  unfold inVal at k2
  unfold rttVal at k3
  unfold congVal at k4
  unfold cnVal
  have A := (Blk.new w (cnCells c) 53).since ((Since.refl _).alloc (.cells (cnCells { c with pa := a', pc := p' }) 53))
  have B := Blk.new (w.alloc (.cells (cnCells c) 53)) (cnCells { c with pa := a', pc := p' }) 53
  have G := ((Since.refl w).alloc (.cells (cnCells c) 53)).alloc (.cells (cnCells { c with pa := a', pc := p' }) 53)
  rw [World.size_alloc] at B
  go_enter Try.func53, Try.ntmps53
  go_upto_region 1 with (fail)
  generalize (w.alloc (.cells (cnCells c) 53)).alloc (.cells (cnCells { c with pa := a', pc := p' }) 53) = x0 at A B G ⊢
  have a_st : x0.cell? ⟨w.heap.size, 0, none⟩ = some (.int .i64 c.st) := A.cell 0
  have b_st : x0.cell? ⟨w.heap.size + 1, 0, none⟩ = some (.int .i64 c.st) := B.cell 0
  have a_iss : x0.cell? ⟨w.heap.size, 1, none⟩ = some (.int .u32 c.iss) := A.cell 1
  have b_iss : x0.cell? ⟨w.heap.size + 1, 1, none⟩ = some (.int .u32 c.iss) := B.cell 1
  have a_una : x0.cell? ⟨w.heap.size, 2, none⟩ = some (.int .u32 c.una) := A.cell 2
  have b_una : x0.cell? ⟨w.heap.size + 1, 2, none⟩ = some (.int .u32 c.una) := B.cell 2
  have a_nxt : x0.cell? ⟨w.heap.size, 3, none⟩ = some (.int .u32 c.nxt) := A.cell 3
  have b_nxt : x0.cell? ⟨w.heap.size + 1, 3, none⟩ = some (.int .u32 c.nxt) := B.cell 3
  have a_mx : x0.cell? ⟨w.heap.size, 4, none⟩ = some (.int .u32 c.mx) := A.cell 4
  have b_mx : x0.cell? ⟨w.heap.size + 1, 4, none⟩ = some (.int .u32 c.mx) := B.cell 4
  have a_wnd : x0.cell? ⟨w.heap.size, 5, none⟩ = some (.int .i64 c.wnd) := A.cell 5
  have b_wnd : x0.cell? ⟨w.heap.size + 1, 5, none⟩ = some (.int .i64 c.wnd) := B.cell 5
  have a_wsq : x0.cell? ⟨w.heap.size, 6, none⟩ = some (.int .u32 c.wsq) := A.cell 6
  have b_wsq : x0.cell? ⟨w.heap.size + 1, 6, none⟩ = some (.int .u32 c.wsq) := B.cell 6
  have a_wak : x0.cell? ⟨w.heap.size, 7, none⟩ = some (.int .u32 c.wak) := A.cell 7
  have b_wak : x0.cell? ⟨w.heap.size + 1, 7, none⟩ = some (.int .u32 c.wak) := B.cell 7
  have a_oF : x0.cell? ⟨w.heap.size, 8, none⟩ = some (.int .u32 c.oF) := A.cell 8
  have b_oF : x0.cell? ⟨w.heap.size + 1, 8, none⟩ = some (.int .u32 c.oF) := B.cell 8
  have a_oD : x0.cell? ⟨w.heap.size, 9, none⟩ = some (.string c.oD) := A.cell 9
  have b_oD : x0.cell? ⟨w.heap.size + 1, 9, none⟩ = some (.string c.oD) := B.cell 9
  have a_oR : x0.cell? ⟨w.heap.size, 10, none⟩ = some (.int .i64 c.oR) := A.cell 10
  have b_oR : x0.cell? ⟨w.heap.size + 1, 10, none⟩ = some (.int .i64 c.oR) := B.cell 10
  go_wp2_with (fail)
  refine (k1 _).mono ?_
  rintro _ x1 ⟨rfl, gg⟩
  clear a_st b_st a_iss b_iss a_una b_una a_nxt b_nxt a_mx b_mx a_wnd b_wnd a_wsq b_wsq a_wak b_wak a_oF b_oF a_oD b_oD a_oR b_oR
  replace A := A.since gg
  replace B := B.since gg
  replace G := G.trans gg
  clear gg
  have a_iN : x1.cell? ⟨w.heap.size, 11, none⟩ = some (.int .u32 c.iN) := A.cell 11
  have b_iN : x1.cell? ⟨w.heap.size + 1, 11, none⟩ = some (.int .u32 c.iN) := B.cell 11
  have a_iD : x1.cell? ⟨w.heap.size, 12, none⟩ = some (.string c.iD) := A.cell 12
  have b_iD : x1.cell? ⟨w.heap.size + 1, 12, none⟩ = some (.string c.iD) := B.cell 12
  have a_iP : x1.cell? ⟨w.heap.size, 13, none⟩ = some (.slice c.pa c.pn c.pc) := A.cell 13
  have b_iP : x1.cell? ⟨w.heap.size + 1, 13, none⟩ = some (.slice a' c.pn p') := B.cell 13
  have a_iR : x1.cell? ⟨w.heap.size, 14, none⟩ = some (.int .i64 c.iR) := A.cell 14
  have b_iR : x1.cell? ⟨w.heap.size + 1, 14, none⟩ = some (.int .i64 c.iR) := B.cell 14
  go_wp2_with (fail)
  refine (k2 _ (R.since G) (Q.since G)).mono ?_
  rintro _ x2 ⟨rfl, gg⟩
  clear a_iN b_iN a_iD b_iD a_iP b_iP a_iR b_iR
  replace A := A.since gg
  replace B := B.since gg
  replace G := G.trans gg
  clear gg
  have a_fin : x2.cell? ⟨w.heap.size, 15, none⟩ = some (.bool c.fin) := A.cell 15
  have b_fin : x2.cell? ⟨w.heap.size + 1, 15, none⟩ = some (.bool c.fin) := B.cell 15
  have a_fsn : x2.cell? ⟨w.heap.size, 16, none⟩ = some (.bool c.fsn) := A.cell 16
  have b_fsn : x2.cell? ⟨w.heap.size + 1, 16, none⟩ = some (.bool c.fsn) := B.cell 16
  have a_fsq : x2.cell? ⟨w.heap.size, 17, none⟩ = some (.int .u32 c.fsq) := A.cell 17
  have b_fsq : x2.cell? ⟨w.heap.size + 1, 17, none⟩ = some (.int .u32 c.fsq) := B.cell 17
  have a_gfn : x2.cell? ⟨w.heap.size, 18, none⟩ = some (.bool c.gfn) := A.cell 18
  have b_gfn : x2.cell? ⟨w.heap.size + 1, 18, none⟩ = some (.bool c.gfn) := B.cell 18
  have a_rA : x2.cell? ⟨w.heap.size, 19, none⟩ = some (.bool c.rA) := A.cell 19
  have b_rA : x2.cell? ⟨w.heap.size + 1, 19, none⟩ = some (.bool c.rA) := B.cell 19
  have a_rS : x2.cell? ⟨w.heap.size, 20, none⟩ = some (.int .i64 c.rS) := A.cell 20
  have b_rS : x2.cell? ⟨w.heap.size + 1, 20, none⟩ = some (.int .i64 c.rS) := B.cell 20
  have a_rV : x2.cell? ⟨w.heap.size, 21, none⟩ = some (.int .i64 c.rV) := A.cell 21
  have b_rV : x2.cell? ⟨w.heap.size + 1, 21, none⟩ = some (.int .i64 c.rV) := B.cell 21
  have a_rD : x2.cell? ⟨w.heap.size, 22, none⟩ = some (.int .i64 c.rD) := A.cell 22
  have b_rD : x2.cell? ⟨w.heap.size + 1, 22, none⟩ = some (.int .i64 c.rD) := B.cell 22
  go_wp2_with (fail)
  refine (k3 _).mono ?_
  rintro _ x3 ⟨rfl, gg⟩
  clear a_fin b_fin a_fsn b_fsn a_fsq b_fsq a_gfn b_gfn a_rA b_rA a_rS b_rS a_rV b_rV a_rD b_rD
  replace A := A.since gg
  replace B := B.since gg
  replace G := G.trans gg
  clear gg
  have a_cX : x3.cell? ⟨w.heap.size, 23, none⟩ = some (.int .i64 c.cX) := A.cell 23
  have b_cX : x3.cell? ⟨w.heap.size + 1, 23, none⟩ = some (.int .i64 c.cX) := B.cell 23
  have a_cT : x3.cell? ⟨w.heap.size, 24, none⟩ = some (.int .i64 c.cT) := A.cell 24
  have b_cT : x3.cell? ⟨w.heap.size + 1, 24, none⟩ = some (.int .i64 c.cT) := B.cell 24
  have a_cD : x3.cell? ⟨w.heap.size, 25, none⟩ = some (.int .i64 c.cD) := A.cell 25
  have b_cD : x3.cell? ⟨w.heap.size + 1, 25, none⟩ = some (.int .i64 c.cD) := B.cell 25
  have a_cF : x3.cell? ⟨w.heap.size, 26, none⟩ = some (.bool c.cF) := A.cell 26
  have b_cF : x3.cell? ⟨w.heap.size + 1, 26, none⟩ = some (.bool c.cF) := B.cell 26
  have a_cR : x3.cell? ⟨w.heap.size, 27, none⟩ = some (.int .u32 c.cR) := A.cell 27
  have b_cR : x3.cell? ⟨w.heap.size + 1, 27, none⟩ = some (.int .u32 c.cR) := B.cell 27
  go_wp2_with (fail)
  refine (k4 _).mono ?_
  rintro _ x4 ⟨rfl, gg⟩
  clear a_cX b_cX a_cT b_cT a_cD b_cD a_cF b_cF a_cR b_cR
  replace A := A.since gg
  replace B := B.since gg
  replace G := G.trans gg
  clear gg
  have a_tmg : x4.cell? ⟨w.heap.size, 28, none⟩ = some (.bool c.tmg) := A.cell 28
  have b_tmg : x4.cell? ⟨w.heap.size + 1, 28, none⟩ = some (.bool c.tmg) := B.cell 28
  have a_tsq : x4.cell? ⟨w.heap.size, 29, none⟩ = some (.int .u32 c.tsq) := A.cell 29
  have b_tsq : x4.cell? ⟨w.heap.size + 1, 29, none⟩ = some (.int .u32 c.tsq) := B.cell 29
  have a_tat : x4.cell? ⟨w.heap.size, 30, none⟩ = some (.int .i64 c.tat) := A.cell 30
  have b_tat : x4.cell? ⟨w.heap.size + 1, 30, none⟩ = some (.int .i64 c.tat) := B.cell 30
  have a_agn : x4.cell? ⟨w.heap.size, 31, none⟩ = some (.int .i64 c.agn) := A.cell 31
  have b_agn : x4.cell? ⟨w.heap.size + 1, 31, none⟩ = some (.int .i64 c.agn) := B.cell 31
  have a_prb : x4.cell? ⟨w.heap.size, 32, none⟩ = some (.int .i64 c.prb) := A.cell 32
  have b_prb : x4.cell? ⟨w.heap.size + 1, 32, none⟩ = some (.int .i64 c.prb) := B.cell 32
  have a_rst : x4.cell? ⟨w.heap.size, 33, none⟩ = some (.int .i64 c.rst) := A.cell 33
  have b_rst : x4.cell? ⟨w.heap.size + 1, 33, none⟩ = some (.int .i64 c.rst) := B.cell 33
  have a_trs : x4.cell? ⟨w.heap.size, 34, none⟩ = some (.int .i64 c.trs) := A.cell 34
  have b_trs : x4.cell? ⟨w.heap.size + 1, 34, none⟩ = some (.int .i64 c.trs) := B.cell 34
  have a_why : x4.cell? ⟨w.heap.size, 35, none⟩ = some (.int .i64 c.why) := A.cell 35
  have b_why : x4.cell? ⟨w.heap.size + 1, 35, none⟩ = some (.int .i64 c.why) := B.cell 35
  have a_owe : x4.cell? ⟨w.heap.size, 36, none⟩ = some (.bool c.owe) := A.cell 36
  have b_owe : x4.cell? ⟨w.heap.size + 1, 36, none⟩ = some (.bool c.owe) := B.cell 36
  go_wp2_with (fail)
  go_ret
  exact ⟨rfl, G⟩
end Go.Proofs.Ytpkenhcglnognaa
