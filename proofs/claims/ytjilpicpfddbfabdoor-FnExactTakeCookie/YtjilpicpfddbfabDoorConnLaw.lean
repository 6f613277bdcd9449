/-
  The laws' functions over ends.
-/
import Derived.Test.YtjilpicpfddbfabDoorConn
import Derived.Test.YtjilpicpfddbfabDoorRttB
import Derived.Test.YtjilpicpfddbfabDoorCong
import Derived.Test.YtjilpicpfddbfabDoorOut
import Derived.Test.YtjilpicpfddbfabDoorM2
import Derived.Deep.DeepCutAuto
namespace Go.Proofs.YtjilpicpfddbfabDoor
open Go.ChangeShapes Go.WideShapes Go.ChangeAt Go.RowKit
set_option linter.unusedVariables false
set_option maxRecDepth 10000

set_option maxRecDepth 20000 in
set_option maxHeartbeats 16000000 in
theorem eqConn (c : Cn) (a' : Option Addr) (p' : Nat) (ps : List (Int × ByteArray)) (hn : c.pn ≤ 1048576) (w : World) (R : Rd shP w c.pa c.pn ps) (Q : Rd shP w a' c.pn ps) :
    Calls Tryd.prog 13 #[cnVal c, cnVal { c with pa := a', pc := p' }] w fun e w' => e = .returned (.bool true) ∧ Since w w' := by
  have k1 := fun wx => eqOut c.oF c.oD c.oR wx
  have k2 := fun wx Rx Qx => eqIn c.iN c.iD c.iR c.pa a' c.pn c.pc p' ps hn wx Rx Qx
  have k3 := fun wx => eqRtt c.rA c.rS c.rV c.rD wx
  have k4 := fun wx => eqCong c.cX c.cT c.cD c.cF c.cR wx
  unfold outVal at k1
  unfold inVal at k2
  unfold rttVal at k3
  unfold congVal at k4
  unfold cnVal
  have A := (Blk.new w (cnCells c) 46).since ((Since.refl _).alloc (.cells (cnCells { c with pa := a', pc := p' }) 46))
  have B := Blk.new (w.alloc (.cells (cnCells c) 46)) (cnCells { c with pa := a', pc := p' }) 46
  have G := ((Since.refl w).alloc (.cells (cnCells c) 46)).alloc (.cells (cnCells { c with pa := a', pc := p' }) 46)
  rw [World.size_alloc] at B
  go_enter Tryd.func13, Tryd.ntmps13
  go_upto_region 1 with (fail)
  generalize (w.alloc (.cells (cnCells c) 46)).alloc (.cells (cnCells { c with pa := a', pc := p' }) 46) = x0 at A B G ⊢
  have a_st : x0.cell? ⟨w.heap.size, 0, none⟩ = some (.int .i64 c.st) := A.cell 0
  have b_st : x0.cell? ⟨w.heap.size + 1, 0, none⟩ = some (.int .i64 c.st) := B.cell 0
  have a_iss : x0.cell? ⟨w.heap.size, 1, none⟩ = some (.int .u32 c.iss) := A.cell 1
  have b_iss : x0.cell? ⟨w.heap.size + 1, 1, none⟩ = some (.int .u32 c.iss) := B.cell 1
  have a_una : x0.cell? ⟨w.heap.size, 2, none⟩ = some (.int .u32 c.una) := A.cell 2
  have b_una : x0.cell? ⟨w.heap.size + 1, 2, none⟩ = some (.int .u32 c.una) := B.cell 2
  have a_nxt : x0.cell? ⟨w.heap.size, 3, none⟩ = some (.int .u32 c.nxt) := A.cell 3
  have b_nxt : x0.cell? ⟨w.heap.size + 1, 3, none⟩ = some (.int .u32 c.nxt) := B.cell 3
  have a_mx : x0.cell? ⟨w.heap.size, 4, none⟩ = some (.int .u32 c.mx) := A.cell 4
  have b_mx : x0.cell? ⟨w.heap.size + 1, 4, none⟩ = some (.int .u32 c.mx) := B.cell 4
  have a_wnd : x0.cell? ⟨w.heap.size, 5, none⟩ = some (.int .i64 c.wnd) := A.cell 5
  have b_wnd : x0.cell? ⟨w.heap.size + 1, 5, none⟩ = some (.int .i64 c.wnd) := B.cell 5
  have a_wsq : x0.cell? ⟨w.heap.size, 6, none⟩ = some (.int .u32 c.wsq) := A.cell 6
  have b_wsq : x0.cell? ⟨w.heap.size + 1, 6, none⟩ = some (.int .u32 c.wsq) := B.cell 6
  have a_wak : x0.cell? ⟨w.heap.size, 7, none⟩ = some (.int .u32 c.wak) := A.cell 7
  have b_wak : x0.cell? ⟨w.heap.size + 1, 7, none⟩ = some (.int .u32 c.wak) := B.cell 7
  have a_oF : x0.cell? ⟨w.heap.size, 8, none⟩ = some (.int .u32 c.oF) := A.cell 8
  have b_oF : x0.cell? ⟨w.heap.size + 1, 8, none⟩ = some (.int .u32 c.oF) := B.cell 8
  have a_oD : x0.cell? ⟨w.heap.size, 9, none⟩ = some (.string c.oD) := A.cell 9
  have b_oD : x0.cell? ⟨w.heap.size + 1, 9, none⟩ = some (.string c.oD) := B.cell 9
  have a_oR : x0.cell? ⟨w.heap.size, 10, none⟩ = some (.int .i64 c.oR) := A.cell 10
  have b_oR : x0.cell? ⟨w.heap.size + 1, 10, none⟩ = some (.int .i64 c.oR) := B.cell 10
  go_wp2_with (fail)
  refine (k1 _).mono ?_
  rintro _ x1 ⟨rfl, gg⟩
  clear a_st b_st a_iss b_iss a_una b_una a_nxt b_nxt a_mx b_mx a_wnd b_wnd a_wsq b_wsq a_wak b_wak a_oF b_oF a_oD b_oD a_oR b_oR
  replace A := A.since gg
  replace B := B.since gg
  replace G := G.trans gg
  clear gg
  have a_iN : x1.cell? ⟨w.heap.size, 11, none⟩ = some (.int .u32 c.iN) := A.cell 11
  have b_iN : x1.cell? ⟨w.heap.size + 1, 11, none⟩ = some (.int .u32 c.iN) := B.cell 11
  have a_iD : x1.cell? ⟨w.heap.size, 12, none⟩ = some (.string c.iD) := A.cell 12
  have b_iD : x1.cell? ⟨w.heap.size + 1, 12, none⟩ = some (.string c.iD) := B.cell 12
  have a_iP : x1.cell? ⟨w.heap.size, 13, none⟩ = some (.slice c.pa c.pn c.pc) := A.cell 13
  have b_iP : x1.cell? ⟨w.heap.size + 1, 13, none⟩ = some (.slice a' c.pn p') := B.cell 13
  have a_iR : x1.cell? ⟨w.heap.size, 14, none⟩ = some (.int .i64 c.iR) := A.cell 14
  have b_iR : x1.cell? ⟨w.heap.size + 1, 14, none⟩ = some (.int .i64 c.iR) := B.cell 14
  go_wp2_with (fail)
  refine (k2 _ (R.since G) (Q.since G)).mono ?_
  rintro _ x2 ⟨rfl, gg⟩
  clear a_iN b_iN a_iD b_iD a_iP b_iP a_iR b_iR
  replace A := A.since gg
  replace B := B.since gg
  replace G := G.trans gg
  clear gg
  have a_fin : x2.cell? ⟨w.heap.size, 15, none⟩ = some (.bool c.fin) := A.cell 15
  have b_fin : x2.cell? ⟨w.heap.size + 1, 15, none⟩ = some (.bool c.fin) := B.cell 15
  have a_fsn : x2.cell? ⟨w.heap.size, 16, none⟩ = some (.bool c.fsn) := A.cell 16
  have b_fsn : x2.cell? ⟨w.heap.size + 1, 16, none⟩ = some (.bool c.fsn) := B.cell 16
  have a_fsq : x2.cell? ⟨w.heap.size, 17, none⟩ = some (.int .u32 c.fsq) := A.cell 17
  have b_fsq : x2.cell? ⟨w.heap.size + 1, 17, none⟩ = some (.int .u32 c.fsq) := B.cell 17
  have a_gfn : x2.cell? ⟨w.heap.size, 18, none⟩ = some (.bool c.gfn) := A.cell 18
  have b_gfn : x2.cell? ⟨w.heap.size + 1, 18, none⟩ = some (.bool c.gfn) := B.cell 18
  have a_rA : x2.cell? ⟨w.heap.size, 19, none⟩ = some (.bool c.rA) := A.cell 19
  have b_rA : x2.cell? ⟨w.heap.size + 1, 19, none⟩ = some (.bool c.rA) := B.cell 19
  have a_rS : x2.cell? ⟨w.heap.size, 20, none⟩ = some (.int .i64 c.rS) := A.cell 20
  have b_rS : x2.cell? ⟨w.heap.size + 1, 20, none⟩ = some (.int .i64 c.rS) := B.cell 20
  have a_rV : x2.cell? ⟨w.heap.size, 21, none⟩ = some (.int .i64 c.rV) := A.cell 21
  have b_rV : x2.cell? ⟨w.heap.size + 1, 21, none⟩ = some (.int .i64 c.rV) := B.cell 21
  have a_rD : x2.cell? ⟨w.heap.size, 22, none⟩ = some (.int .i64 c.rD) := A.cell 22
  have b_rD : x2.cell? ⟨w.heap.size + 1, 22, none⟩ = some (.int .i64 c.rD) := B.cell 22
  go_wp2_with (fail)
  refine (k3 _).mono ?_
  rintro _ x3 ⟨rfl, gg⟩
  clear a_fin b_fin a_fsn b_fsn a_fsq b_fsq a_gfn b_gfn a_rA b_rA a_rS b_rS a_rV b_rV a_rD b_rD
  replace A := A.since gg
  replace B := B.since gg
  replace G := G.trans gg
  clear gg
  have a_cX : x3.cell? ⟨w.heap.size, 23, none⟩ = some (.int .i64 c.cX) := A.cell 23
  have b_cX : x3.cell? ⟨w.heap.size + 1, 23, none⟩ = some (.int .i64 c.cX) := B.cell 23
  have a_cT : x3.cell? ⟨w.heap.size, 24, none⟩ = some (.int .i64 c.cT) := A.cell 24
  have b_cT : x3.cell? ⟨w.heap.size + 1, 24, none⟩ = some (.int .i64 c.cT) := B.cell 24
  have a_cD : x3.cell? ⟨w.heap.size, 25, none⟩ = some (.int .i64 c.cD) := A.cell 25
  have b_cD : x3.cell? ⟨w.heap.size + 1, 25, none⟩ = some (.int .i64 c.cD) := B.cell 25
  have a_cF : x3.cell? ⟨w.heap.size, 26, none⟩ = some (.bool c.cF) := A.cell 26
  have b_cF : x3.cell? ⟨w.heap.size + 1, 26, none⟩ = some (.bool c.cF) := B.cell 26
  have a_cR : x3.cell? ⟨w.heap.size, 27, none⟩ = some (.int .u32 c.cR) := A.cell 27
  have b_cR : x3.cell? ⟨w.heap.size + 1, 27, none⟩ = some (.int .u32 c.cR) := B.cell 27
  go_wp2_with (fail)
  refine (k4 _).mono ?_
  rintro _ x4 ⟨rfl, gg⟩
  clear a_cX b_cX a_cT b_cT a_cD b_cD a_cF b_cF a_cR b_cR
  replace A := A.since gg
  replace B := B.since gg
  replace G := G.trans gg
  clear gg
  have a_tmg : x4.cell? ⟨w.heap.size, 28, none⟩ = some (.bool c.tmg) := A.cell 28
  have b_tmg : x4.cell? ⟨w.heap.size + 1, 28, none⟩ = some (.bool c.tmg) := B.cell 28
  have a_tsq : x4.cell? ⟨w.heap.size, 29, none⟩ = some (.int .u32 c.tsq) := A.cell 29
  have b_tsq : x4.cell? ⟨w.heap.size + 1, 29, none⟩ = some (.int .u32 c.tsq) := B.cell 29
  have a_tat : x4.cell? ⟨w.heap.size, 30, none⟩ = some (.int .i64 c.tat) := A.cell 30
  have b_tat : x4.cell? ⟨w.heap.size + 1, 30, none⟩ = some (.int .i64 c.tat) := B.cell 30
  have a_agn : x4.cell? ⟨w.heap.size, 31, none⟩ = some (.int .i64 c.agn) := A.cell 31
  have b_agn : x4.cell? ⟨w.heap.size + 1, 31, none⟩ = some (.int .i64 c.agn) := B.cell 31
  have a_prb : x4.cell? ⟨w.heap.size, 32, none⟩ = some (.int .i64 c.prb) := A.cell 32
  have b_prb : x4.cell? ⟨w.heap.size + 1, 32, none⟩ = some (.int .i64 c.prb) := B.cell 32
  have a_rst : x4.cell? ⟨w.heap.size, 33, none⟩ = some (.int .i64 c.rst) := A.cell 33
  have b_rst : x4.cell? ⟨w.heap.size + 1, 33, none⟩ = some (.int .i64 c.rst) := B.cell 33
  have a_trs : x4.cell? ⟨w.heap.size, 34, none⟩ = some (.int .i64 c.trs) := A.cell 34
  have b_trs : x4.cell? ⟨w.heap.size + 1, 34, none⟩ = some (.int .i64 c.trs) := B.cell 34
  have a_why : x4.cell? ⟨w.heap.size, 35, none⟩ = some (.int .i64 c.why) := A.cell 35
  have b_why : x4.cell? ⟨w.heap.size + 1, 35, none⟩ = some (.int .i64 c.why) := B.cell 35
  have a_owe : x4.cell? ⟨w.heap.size, 36, none⟩ = some (.bool c.owe) := A.cell 36
  have b_owe : x4.cell? ⟨w.heap.size + 1, 36, none⟩ = some (.bool c.owe) := B.cell 36
  go_wp2_with (fail)
  go_ret
  exact ⟨rfl, G⟩

theorem markConn (c : Cn) (B : Nat) (ps : List (Int × ByteArray)) (k : Int) (hk0 : 1 ≤ k) (hk1 : k + 2 * c.pn ≤ 1073741824) (w : World) (T : Own shP w B (.slice c.pa c.pn c.pc) c.pn ps) :
    Calls Tryd.prog 14 #[cnVal c, .int .i64 k] w fun e w' => e = .returned (.int .i64 (k + 2 * c.pn)) ∧ (∃ x, Since w x ∧ x.grownBy w' (Value.slice c.pa c.pn c.pc).ownBlock) ∧ ∃ ms, MarkedP k c.pn ms ∧ Own shP w' B (.slice c.pa c.pn c.pc) c.pn ms := by
  have k2 := fun wx Tx => markIn c.iN c.iD c.iR B c.pn (.slice c.pa c.pn c.pc) ps k hk0 hk1 wx Tx
  unfold inVal at k2
  unfold cnVal
  have A := Blk.new w (cnCells c) 46
  have G := (Since.refl w).alloc (.cells (cnCells c) 46)
  go_enter Tryd.func14, Tryd.ntmps14
  go_upto_region 1 with (fail)
  generalize w.alloc (.cells (cnCells c) 46) = x0 at A G ⊢
  have a_iN : x0.cell? ⟨w.heap.size, 11, none⟩ = some (.int .u32 c.iN) := A.cell 11
  have a_iD : x0.cell? ⟨w.heap.size, 12, none⟩ = some (.string c.iD) := A.cell 12
  have a_iP : x0.cell? ⟨w.heap.size, 13, none⟩ = some (.slice c.pa c.pn c.pc) := A.cell 13
  have a_iR : x0.cell? ⟨w.heap.size, 14, none⟩ = some (.int .i64 c.iR) := A.cell 14
  go_wp2_with (fail)
  refine (k2 _ (T.since G)).mono ?_
  rintro _ x1 ⟨rfl, g1, ms, hM, T1⟩
  go_wp2_with (fail)
  go_ret
  exact ⟨rfl, ⟨x0, G, g1⟩, ms, hM, T1⟩

theorem heldConn (c : Cn) (ms : List (Int × ByteArray)) (k : Int) (hk0 : 1 ≤ k) (hk1 : k + 2 * c.pn ≤ 1073741824) (w : World) (R : Rd shP w c.pa c.pn ms) (hM : MarkedP k c.pn ms) :
    Calls Tryd.prog 15 #[cnVal c, .int .i64 k] w fun e w' => e = .returned (.int .i64 (k + 2 * c.pn)) ∧ Since w w' := by
  have k2 := fun wx Rx => heldIn c.iN c.iD c.iR c.pa c.pn c.pc ms k hk0 hk1 wx Rx hM
  have hpos : 0 ≤ k + 2 * (c.pn : Int) := by omega
  unfold inVal at k2
  unfold cnVal
  generalize k + 2 * (c.pn : Int) = kk at k2 hpos ⊢
  have A := Blk.new w (cnCells c) 46
  have G := (Since.refl w).alloc (.cells (cnCells c) 46)
  go_enter Tryd.func15, Tryd.ntmps15
  go_upto_region 1 with (fail)
  generalize w.alloc (.cells (cnCells c) 46) = x0 at A G ⊢
  have a_iN : x0.cell? ⟨w.heap.size, 11, none⟩ = some (.int .u32 c.iN) := A.cell 11
  have a_iD : x0.cell? ⟨w.heap.size, 12, none⟩ = some (.string c.iD) := A.cell 12
  have a_iP : x0.cell? ⟨w.heap.size, 13, none⟩ = some (.slice c.pa c.pn c.pc) := A.cell 13
  have a_iR : x0.cell? ⟨w.heap.size, 14, none⟩ = some (.int .i64 c.iR) := A.cell 14
  go_wp2_with (fail)
  refine (k2 _ (R.since G)).mono ?_
  rintro _ x1 ⟨rfl, g1⟩
  go_wp2_with (fail)
  go_ret
  exact ⟨rfl, G.trans g1⟩
end Go.Proofs.YtjilpicpfddbfabDoor
