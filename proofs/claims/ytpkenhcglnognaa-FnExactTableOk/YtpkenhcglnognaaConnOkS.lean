/-
  What ConnOk answers, and spec's ConnOk, at every end.
-/
import Derived.Test.YtpkenhcglnognaaConn
import Derived.Test.YtpkenhcglnognaaRttB
import Derived.Test.YtpkenhcglnognaaCong
import Derived.Test.YtpkenhcglnognaaOut
import Derived.Test.YtpkenhcglnognaaInOkS
import Derived.Deep.DeepCutAuto
namespace Go.Proofs.Ytpkenhcglnognaa
open Go.ChangeShapes Go.WideShapes Go.ChangeAt Go.RowKit
set_option linter.unusedVariables false
set_option maxRecDepth 10000

/-- What ConnOk answers. -/
def connOk (c : Cn) (ps : List (Int × ByteArray)) : Bool :=
  decide (0 ≤ c.st ∧ c.st ≤ 9) && (
  outOk c.oD c.oR && (
  inOk c.iN c.iD c.iR ps && (
  rttOk c.rA c.rS c.rV c.rD && (
  congOk c.cX c.cT c.cD && (
  decide (0 ≤ c.wnd ∧ c.wnd ≤ 65535) && (
  decide (0 ≤ c.trs ∧ c.trs ≤ 10) && (
  decide (0 ≤ c.why ∧ c.why ≤ 4) && (
  decide (0 ≤ distI c.una c.nxt ∧ distI c.una c.nxt ≤ 4098) && (
  decide (0 ≤ distI c.una c.mx ∧ distI c.una c.mx ≤ 4098) && (
  decide (0 ≤ distI c.nxt c.mx) && (
  decide (0 ≤ c.agn ∧ c.agn ≤ 2000000000) && (
  decide (0 ≤ c.prb ∧ c.prb ≤ 2000000000) && (
  decide (0 ≤ c.rst ∧ c.rst ≤ 2000000000) && (
  decide (0 ≤ c.tat ∧ c.tat ≤ 2000000000) && (
  (decide (c.oF = c.una) || (decide (c.st = 1 ∨ c.st = 2 ∨ c.st = 0) && decide (c.oF = (c.una + 1) % 4294967296) || c.fsn && decide (c.oF = (c.una - 1) % 4294967296))))))))))))))))))

/-- What is known of an end that came in: words are words, texts are no longer than the laws let in. -/
structure GoodC (c : Cn) (ps : List (Int × ByteArray)) : Prop where
  w_iss : IsWord c.iss
  w_una : IsWord c.una
  w_nxt : IsWord c.nxt
  w_mx : IsWord c.mx
  w_wsq : IsWord c.wsq
  w_wak : IsWord c.wak
  w_oF : IsWord c.oF
  w_fsq : IsWord c.fsq
  w_cR : IsWord c.cR
  w_tsq : IsWord c.tsq
  hod : c.oD.size ≤ 1048576
  gd : Good c.iN c.iD c.iR c.pn ps

set_option maxRecDepth 20000 in
set_option maxHeartbeats 8000000 in
theorem specConnOk (c : Cn) (ps : List (Int × ByteArray)) (gc : GoodC c ps) (w : World) (R : Rd shP w c.pa c.pn ps) :
    Calls Try.prog 16 #[cnVal c] w fun e w' => e = .returned (.bool (connOk c ps)) ∧ Since w w' := by
  have hod := gc.hod
  have gd := gc.gd
  have n1 := gc.w_una
  have n2 := gc.w_nxt
  have n3 := gc.w_mx
  have B := Blk.new w (cnCells c) 53
  have G := (Since.refl w).alloc (.cells (cnCells c) 53)
  replace R := R.since G
  obtain ⟨x0, hx0⟩ : ∃ x, x = connOk c ps := ⟨_, rfl⟩
  rw [← hx0]
  unfold connOk at hx0
  unfold cnVal
  clear gc
  go_enter Try.func16, Try.ntmps16
  go_upto_region 1 with (fail)
  generalize w.alloc (.cells (cnCells c) 53) = w1 at B G R ⊢
  have f_st : w1.cell? ⟨w.heap.size, 0, none⟩ = some (.int .i64 c.st) := B.cell 0
  go_wp2_with (fail)
  refine (specIn c.st 0 9 _).mono ?_
  generalize decide (0 ≤ c.st ∧ c.st ≤ 9) = k0 at hx0 ⊢
  rintro _ _ ⟨rfl, rfl⟩
  clear f_st
  cases k0
  · go_wp2_with (fail)
    go_ret
    exact ⟨ret_bool (by rw [hx0]; rfl), G⟩
  simp only [Bool.true_and] at hx0
  have f_oF : w1.cell? ⟨w.heap.size, 8, none⟩ = some (.int .u32 c.oF) := B.cell 8
  have f_oD : w1.cell? ⟨w.heap.size, 9, none⟩ = some (.string c.oD) := B.cell 9
  have f_oR : w1.cell? ⟨w.heap.size, 10, none⟩ = some (.int .i64 c.oR) := B.cell 10
  go_wp2_with (fail)
  refine (specOutOk c.oF c.oD c.oR _).mono ?_
  generalize outOk c.oD c.oR = k1 at hx0 ⊢
  rintro _ w2 ⟨rfl, g2⟩
  replace G := G.trans g2
  replace B := B.since g2
  replace R := R.since g2
  clear f_oF f_oD f_oR
  cases k1
  · go_wp2_with (fail)
    go_ret
    exact ⟨ret_bool (by rw [hx0]; rfl), G⟩
  simp only [Bool.true_and] at hx0
  have f_iN : w2.cell? ⟨w.heap.size, 11, none⟩ = some (.int .u32 c.iN) := B.cell 11
  have f_iD : w2.cell? ⟨w.heap.size, 12, none⟩ = some (.string c.iD) := B.cell 12
  have f_iP : w2.cell? ⟨w.heap.size, 13, none⟩ = some (.slice c.pa c.pn c.pc) := B.cell 13
  have f_iR : w2.cell? ⟨w.heap.size, 14, none⟩ = some (.int .i64 c.iR) := B.cell 14
  go_wp2_with (fail)
  refine (specInOk c.iN c.iD c.iR c.pa c.pn c.pc ps gd _ R).mono ?_
  generalize inOk c.iN c.iD c.iR ps = k2 at hx0 ⊢
  rintro _ w3 ⟨rfl, g3⟩
  replace G := G.trans g3
  replace B := B.since g3
  replace R := R.since g3
  clear f_iN f_iD f_iP f_iR
  cases k2
  · go_wp2_with (fail)
    go_ret
    exact ⟨ret_bool (by rw [hx0]; rfl), G⟩
  simp only [Bool.true_and] at hx0
  have f_rA : w3.cell? ⟨w.heap.size, 19, none⟩ = some (.bool c.rA) := B.cell 19
  have f_rS : w3.cell? ⟨w.heap.size, 20, none⟩ = some (.int .i64 c.rS) := B.cell 20
  have f_rV : w3.cell? ⟨w.heap.size, 21, none⟩ = some (.int .i64 c.rV) := B.cell 21
  have f_rD : w3.cell? ⟨w.heap.size, 22, none⟩ = some (.int .i64 c.rD) := B.cell 22
  go_wp2_with (fail)
  refine (specRttOk c.rA c.rS c.rV c.rD _).mono ?_
  generalize rttOk c.rA c.rS c.rV c.rD = k3 at hx0 ⊢
  rintro _ w4 ⟨rfl, hw⟩
  have g4 : Since w3 w4 := by
    rw [hw]
    exact (Since.refl _).alloc _
  clear hw
  replace G := G.trans g4
  replace B := B.since g4
  replace R := R.since g4
  clear f_rA f_rS f_rV f_rD
  cases k3
  · go_wp2_with (fail)
    go_ret
    exact ⟨ret_bool (by rw [hx0]; rfl), G⟩
  simp only [Bool.true_and] at hx0
  have f_cX : w4.cell? ⟨w.heap.size, 23, none⟩ = some (.int .i64 c.cX) := B.cell 23
  have f_cT : w4.cell? ⟨w.heap.size, 24, none⟩ = some (.int .i64 c.cT) := B.cell 24
  have f_cD : w4.cell? ⟨w.heap.size, 25, none⟩ = some (.int .i64 c.cD) := B.cell 25
  have f_cF : w4.cell? ⟨w.heap.size, 26, none⟩ = some (.bool c.cF) := B.cell 26
  have f_cR : w4.cell? ⟨w.heap.size, 27, none⟩ = some (.int .u32 c.cR) := B.cell 27
  go_wp2_with (fail)
  refine (specCongOk c.cX c.cT c.cD c.cF c.cR _).mono ?_
  generalize congOk c.cX c.cT c.cD = k4 at hx0 ⊢
  rintro _ w5 ⟨rfl, hw⟩
  have g5 : Since w4 w5 := by
    rw [hw]
    exact (Since.refl _).alloc _
  clear hw
  replace G := G.trans g5
  replace B := B.since g5
  replace R := R.since g5
  clear f_cX f_cT f_cD f_cF f_cR
  cases k4
  · go_wp2_with (fail)
    go_ret
    exact ⟨ret_bool (by rw [hx0]; rfl), G⟩
  simp only [Bool.true_and] at hx0
  have f_wnd : w5.cell? ⟨w.heap.size, 5, none⟩ = some (.int .i64 c.wnd) := B.cell 5
  go_wp2_with (fail)
  refine (specIn c.wnd 0 65535 _).mono ?_
  generalize decide (0 ≤ c.wnd ∧ c.wnd ≤ 65535) = k5 at hx0 ⊢
  rintro _ _ ⟨rfl, rfl⟩
  clear f_wnd
  cases k5
  · go_wp2_with (fail)
    go_ret
    exact ⟨ret_bool (by rw [hx0]; rfl), G⟩
  simp only [Bool.true_and] at hx0
  have f_trs : w5.cell? ⟨w.heap.size, 34, none⟩ = some (.int .i64 c.trs) := B.cell 34
  go_wp2_with (fail)
  refine (specIn c.trs 0 10 _).mono ?_
  generalize decide (0 ≤ c.trs ∧ c.trs ≤ 10) = k6 at hx0 ⊢
  rintro _ _ ⟨rfl, rfl⟩
  clear f_trs
  cases k6
  · go_wp2_with (fail)
    go_ret
    exact ⟨ret_bool (by rw [hx0]; rfl), G⟩
  simp only [Bool.true_and] at hx0
  have f_why : w5.cell? ⟨w.heap.size, 35, none⟩ = some (.int .i64 c.why) := B.cell 35
  go_wp2_with (fail)
  refine (specIn c.why 0 4 _).mono ?_
  generalize decide (0 ≤ c.why ∧ c.why ≤ 4) = k7 at hx0 ⊢
  rintro _ _ ⟨rfl, rfl⟩
  clear f_why
  cases k7
  · go_wp2_with (fail)
    go_ret
    exact ⟨ret_bool (by rw [hx0]; rfl), G⟩
  simp only [Bool.true_and] at hx0
  clear R gd
  have f_una : w5.cell? ⟨w.heap.size, 2, none⟩ = some (.int .u32 c.una) := B.cell 2
  have f_nxt : w5.cell? ⟨w.heap.size, 3, none⟩ = some (.int .u32 c.nxt) := B.cell 3
  go_wp2_with (fail)
  refine (specDist c.una c.nxt _ n1 n2 (distI_is _ _) _).mono ?_
  rintro _ _ ⟨rfl, rfl⟩
  go_wp2_with (fail)
  refine (specIn (distI c.una c.nxt) 0 4098 _).mono ?_
  generalize decide (0 ≤ distI c.una c.nxt ∧ distI c.una c.nxt ≤ 4098) = k8 at hx0 ⊢
  rintro _ _ ⟨rfl, rfl⟩
  cases k8
  · go_wp2_with (fail)
    go_ret
    exact ⟨ret_bool (by rw [hx0]; rfl), G⟩
  simp only [Bool.true_and] at hx0
  have f_mx : w5.cell? ⟨w.heap.size, 4, none⟩ = some (.int .u32 c.mx) := B.cell 4
  go_wp2_with (fail)
  refine (specDist c.una c.mx _ n1 n3 (distI_is _ _) _).mono ?_
  rintro _ _ ⟨rfl, rfl⟩
  go_wp2_with (fail)
  refine (specIn (distI c.una c.mx) 0 4098 _).mono ?_
  generalize decide (0 ≤ distI c.una c.mx ∧ distI c.una c.mx ≤ 4098) = k9 at hx0 ⊢
  rintro _ _ ⟨rfl, rfl⟩
  cases k9
  · go_wp2_with (fail)
    go_ret
    exact ⟨ret_bool (by rw [hx0]; rfl), G⟩
  simp only [Bool.true_and] at hx0
  go_wp2_with (fail)
  refine (specLessEq c.nxt c.mx _ n2 n3 (distI_is _ _) _).mono ?_
  generalize decide (0 ≤ distI c.nxt c.mx) = ka at hx0 ⊢
  rintro _ _ ⟨rfl, rfl⟩
  cases ka
  · go_wp2_with (fail)
    go_ret
    exact ⟨ret_bool (by rw [hx0]; rfl), G⟩
  simp only [Bool.true_and] at hx0
  clear f_nxt f_mx n2 n3
  have f_agn : w5.cell? ⟨w.heap.size, 31, none⟩ = some (.int .i64 c.agn) := B.cell 31
  go_wp2_with (fail)
  refine (specIn c.agn 0 2000000000 _).mono ?_
  generalize decide (0 ≤ c.agn ∧ c.agn ≤ 2000000000) = kb at hx0 ⊢
  rintro _ _ ⟨rfl, rfl⟩
  clear f_agn
  cases kb
  · go_wp2_with (fail)
    go_ret
    exact ⟨ret_bool (by rw [hx0]; rfl), G⟩
  simp only [Bool.true_and] at hx0
  have f_prb : w5.cell? ⟨w.heap.size, 32, none⟩ = some (.int .i64 c.prb) := B.cell 32
  go_wp2_with (fail)
  refine (specIn c.prb 0 2000000000 _).mono ?_
  generalize decide (0 ≤ c.prb ∧ c.prb ≤ 2000000000) = kc at hx0 ⊢
  rintro _ _ ⟨rfl, rfl⟩
  clear f_prb
  cases kc
  · go_wp2_with (fail)
    go_ret
    exact ⟨ret_bool (by rw [hx0]; rfl), G⟩
  simp only [Bool.true_and] at hx0
  have f_rst : w5.cell? ⟨w.heap.size, 33, none⟩ = some (.int .i64 c.rst) := B.cell 33
  go_wp2_with (fail)
  refine (specIn c.rst 0 2000000000 _).mono ?_
  generalize decide (0 ≤ c.rst ∧ c.rst ≤ 2000000000) = kd at hx0 ⊢
  rintro _ _ ⟨rfl, rfl⟩
  clear f_rst
  cases kd
  · go_wp2_with (fail)
    go_ret
    exact ⟨ret_bool (by rw [hx0]; rfl), G⟩
  simp only [Bool.true_and] at hx0
  have f_tat : w5.cell? ⟨w.heap.size, 30, none⟩ = some (.int .i64 c.tat) := B.cell 30
  go_wp2_with (fail)
  refine (specIn c.tat 0 2000000000 _).mono ?_
  generalize decide (0 ≤ c.tat ∧ c.tat ≤ 2000000000) = ke at hx0 ⊢
  rintro _ _ ⟨rfl, rfl⟩
  clear f_tat
  cases ke
  · go_wp2_with (fail)
    go_ret
    exact ⟨ret_bool (by rw [hx0]; rfl), G⟩
  simp only [Bool.true_and] at hx0
  have f_st : w5.cell? ⟨w.heap.size, 0, none⟩ = some (.int .i64 c.st) := B.cell 0
  have f_oF : w5.cell? ⟨w.heap.size, 8, none⟩ = some (.int .u32 c.oF) := B.cell 8
  have f_fsn : w5.cell? ⟨w.heap.size, 16, none⟩ = some (.bool c.fsn) := B.cell 16
  go_wp2_with (fail)
  all_goals go_ret
  all_goals refine ⟨ret_bool ?_, G⟩
  all_goals rw [hx0, Bool.eq_iff_iff]
  all_goals simp [*]
  all_goals omega
end Go.Proofs.Ytpkenhcglnognaa
