/-
  impl's ConnOk, at every end.
-/
import Derived.Test.YtpkenhcglnognaaConnOkS
import Derived.Test.YtpkenhcglnognaaInOkI
import Derived.Test.YtpkenhcglnognaaWant
namespace Go.Proofs.Ytpkenhcglnognaa
open Go.ChangeShapes Go.WideShapes Go.ChangeAt Go.RowKit
set_option linter.unusedVariables false
set_option maxRecDepth 10000

/-- What partsOk answers. -/
def partsB (c : Cn) (ps : List (Int × ByteArray)) : Bool := outOk c.oD c.oR && (inOk c.iN c.iD c.iR ps && (rttOk c.rA c.rS c.rV c.rD && congOk c.cX c.cT c.cD))

/-- What placesOk answers. -/
def placesB (c : Cn) : Bool := decide (0 ≤ distI c.una c.nxt ∧ distI c.una c.nxt ≤ 4098) && (decide (0 ≤ distI c.una c.mx ∧ distI c.una c.mx ≤ 4098) && decide (0 ≤ distI c.nxt c.mx))

/-- What ticksOk answers. -/
def ticksB (c : Cn) : Bool := decide (0 ≤ c.agn ∧ c.agn ≤ 2000000000) && (decide (0 ≤ c.prb ∧ c.prb ≤ 2000000000) && (decide (0 ≤ c.rst ∧ c.rst ≤ 2000000000) && decide (0 ≤ c.tat ∧ c.tat ≤ 2000000000)))

/-- What outFits answers. -/
def fitsB (c : Cn) : Bool := (decide (c.oF = c.una) || (decide (c.st = 1 ∨ c.st = 2 ∨ c.st = 0) && decide (c.oF = (c.una + 1) % 4294967296) || c.fsn && decide (c.oF = (c.una - 1) % 4294967296)))

theorem connOk_is (c : Cn) (ps : List (Int × ByteArray)) : connOk c ps = (decide (0 ≤ c.st ∧ c.st ≤ 9) && (partsB c ps && (decide (0 ≤ c.wnd ∧ c.wnd ≤ 65535) && (decide (0 ≤ c.trs ∧ c.trs ≤ 10) && (placesB c && (ticksB c && (decide (0 ≤ c.why ∧ c.why ≤ 4) && fitsB c))))))) := by
  unfold connOk partsB placesB ticksB fitsB
  generalize outOk c.oD c.oR = a1
  generalize inOk c.iN c.iD c.iR ps = a2
  generalize rttOk c.rA c.rS c.rV c.rD = a3
  generalize congOk c.cX c.cT c.cD = a4
  generalize decide (0 ≤ c.st ∧ c.st ≤ 9) = a5
  generalize decide (0 ≤ c.wnd ∧ c.wnd ≤ 65535) = a6
  generalize decide (0 ≤ c.trs ∧ c.trs ≤ 10) = a7
  generalize decide (0 ≤ c.why ∧ c.why ≤ 4) = a8
  generalize decide (0 ≤ distI c.una c.nxt ∧ distI c.una c.nxt ≤ 4098) = a9
  generalize decide (0 ≤ distI c.una c.mx ∧ distI c.una c.mx ≤ 4098) = b1
  generalize decide (0 ≤ distI c.nxt c.mx) = b2
  generalize decide (0 ≤ c.agn ∧ c.agn ≤ 2000000000) = b3
  generalize decide (0 ≤ c.prb ∧ c.prb ≤ 2000000000) = b4
  generalize decide (0 ≤ c.rst ∧ c.rst ≤ 2000000000) = b5
  generalize decide (0 ≤ c.tat ∧ c.tat ≤ 2000000000) = b6
  generalize (decide (c.oF = c.una) || (decide (c.st = 1 ∨ c.st = 2 ∨ c.st = 0) && decide (c.oF = (c.una + 1) % 4294967296) || c.fsn && decide (c.oF = (c.una - 1) % 4294967296))) = b7
  simp only [Bool.and_left_comm, Bool.and_comm]

set_option maxRecDepth 20000 in
set_option maxHeartbeats 8000000 in
theorem partsOk (c : Cn) (ps : List (Int × ByteArray)) (gc : GoodC c ps) (w : World) (R : Rd shP w c.pa c.pn ps) :
    Calls Try.prog 47 #[cnVal c] w fun e w' => e = .returned (.bool (partsB c ps)) ∧ Since w w' := by
  have B := Blk.new w (cnCells c) 53
  have G := (Since.refl w).alloc (.cells (cnCells c) 53)
  have gd := gc.gd
  replace R := R.since G
  obtain ⟨x0, hx0⟩ : ∃ x, x = partsB c ps := ⟨_, rfl⟩
  rw [← hx0]
  unfold partsB at hx0
  unfold cnVal
  go_enter Try.func47, Try.ntmps47
  go_upto_region 1 with (fail)
  generalize w.alloc (.cells (cnCells c) 53) = w1 at B G R ⊢
  have f_oF : w1.cell? ⟨w.heap.size, 8, none⟩ = some (.int .u32 c.oF) := B.cell 8
  have f_oD : w1.cell? ⟨w.heap.size, 9, none⟩ = some (.string c.oD) := B.cell 9
  have f_oR : w1.cell? ⟨w.heap.size, 10, none⟩ = some (.int .i64 c.oR) := B.cell 10
  go_wp2_with (fail)
  refine (implOutOk c.oF c.oD c.oR _).mono ?_
  generalize outOk c.oD c.oR = k1 at hx0 ⊢
  rintro _ w2 ⟨rfl, g2⟩
  replace G := G.trans g2
  replace B := B.since g2
  replace R := R.since g2
  clear f_oF f_oD f_oR
  cases k1
  · go_wp2_with (fail)
    go_ret
    exact ⟨ret_bool (by rw [hx0]; rfl), G⟩
  simp only [Bool.true_and] at hx0
  have f_iN : w2.cell? ⟨w.heap.size, 11, none⟩ = some (.int .u32 c.iN) := B.cell 11
  have f_iD : w2.cell? ⟨w.heap.size, 12, none⟩ = some (.string c.iD) := B.cell 12
  have f_iP : w2.cell? ⟨w.heap.size, 13, none⟩ = some (.slice c.pa c.pn c.pc) := B.cell 13
  have f_iR : w2.cell? ⟨w.heap.size, 14, none⟩ = some (.int .i64 c.iR) := B.cell 14
  go_wp2_with (fail)
  refine (implInOk c.iN c.iD c.iR c.pa c.pn c.pc ps gd _ R).mono ?_
  generalize inOk c.iN c.iD c.iR ps = k2 at hx0 ⊢
  rintro _ w3 ⟨rfl, g3⟩
  replace G := G.trans g3
  replace B := B.since g3
  replace R := R.since g3
  clear f_iN f_iD f_iP f_iR
  cases k2
  · go_wp2_with (fail)
    go_ret
    exact ⟨ret_bool (by rw [hx0]; rfl), G⟩
  simp only [Bool.true_and] at hx0
  have f_rA : w3.cell? ⟨w.heap.size, 19, none⟩ = some (.bool c.rA) := B.cell 19
  have f_rS : w3.cell? ⟨w.heap.size, 20, none⟩ = some (.int .i64 c.rS) := B.cell 20
  have f_rV : w3.cell? ⟨w.heap.size, 21, none⟩ = some (.int .i64 c.rV) := B.cell 21
  have f_rD : w3.cell? ⟨w.heap.size, 22, none⟩ = some (.int .i64 c.rD) := B.cell 22
  go_wp2_with (fail)
  refine (implRttOk c.rA c.rS c.rV c.rD _).mono ?_
  generalize rttOk c.rA c.rS c.rV c.rD = k3 at hx0 ⊢
  rintro _ w4 ⟨rfl, hw⟩
  have g4 : Since w3 w4 := by
    rw [hw]
    exact (Since.refl _).alloc _
  clear hw
  replace G := G.trans g4
  replace B := B.since g4
  replace R := R.since g4
  clear f_rA f_rS f_rV f_rD
  cases k3
  · go_wp2_with (fail)
    go_ret
    exact ⟨ret_bool (by rw [hx0]; rfl), G⟩
  simp only [Bool.true_and] at hx0
  have f_cX : w4.cell? ⟨w.heap.size, 23, none⟩ = some (.int .i64 c.cX) := B.cell 23
  have f_cT : w4.cell? ⟨w.heap.size, 24, none⟩ = some (.int .i64 c.cT) := B.cell 24
  have f_cD : w4.cell? ⟨w.heap.size, 25, none⟩ = some (.int .i64 c.cD) := B.cell 25
  have f_cF : w4.cell? ⟨w.heap.size, 26, none⟩ = some (.bool c.cF) := B.cell 26
  have f_cR : w4.cell? ⟨w.heap.size, 27, none⟩ = some (.int .u32 c.cR) := B.cell 27
  go_wp2_with (fail)
  refine (implCongOk c.cX c.cT c.cD c.cF c.cR _).mono ?_
  generalize congOk c.cX c.cT c.cD = k4 at hx0 ⊢
  rintro _ w5 ⟨rfl, hw⟩
  have g5 : Since w4 w5 := by
    rw [hw]
    exact (Since.refl _).alloc _
  clear hw
  replace G := G.trans g5
  replace B := B.since g5
  replace R := R.since g5
  clear f_cX f_cT f_cD f_cF f_cR
  go_wp2_with (fail)
  go_ret
  exact ⟨ret_bool hx0.symm, G⟩

set_option maxRecDepth 20000 in
set_option maxHeartbeats 8000000 in
theorem placesOk (c : Cn) (n1 : IsWord c.una) (n2 : IsWord c.nxt) (n3 : IsWord c.mx) (w : World) :
    Calls Try.prog 49 #[cnVal c] w fun e w' => e = .returned (.bool (placesB c)) ∧ Since w w' := by
  have B := Blk.new w (cnCells c) 53
  have G := (Since.refl w).alloc (.cells (cnCells c) 53)
  obtain ⟨x0, hx0⟩ : ∃ x, x = placesB c := ⟨_, rfl⟩
  rw [← hx0]
  unfold placesB at hx0
  unfold cnVal
  go_enter Try.func49, Try.ntmps49
  go_upto_region 1 with (fail)
  generalize w.alloc (.cells (cnCells c) 53) = w1 at B G ⊢
  have f_una : w1.cell? ⟨w.heap.size, 2, none⟩ = some (.int .u32 c.una) := B.cell 2
  have f_nxt : w1.cell? ⟨w.heap.size, 3, none⟩ = some (.int .u32 c.nxt) := B.cell 3
  go_wp2_with (fail)
  refine (implDist c.una c.nxt _ n1 n2 (distI_is _ _) _).mono ?_
  rintro _ _ ⟨rfl, rfl⟩
  go_wp2_with (fail)
  refine (isWithin (distI c.una c.nxt) 4098 _).mono ?_
  generalize decide (0 ≤ distI c.una c.nxt ∧ distI c.una c.nxt ≤ 4098) = k1 at hx0 ⊢
  rintro _ _ ⟨rfl, rfl⟩
  clear f_una f_nxt
  cases k1
  · go_wp2_with (fail)
    go_ret
    exact ⟨ret_bool (by rw [hx0]; rfl), G⟩
  simp only [Bool.true_and] at hx0
  have f_una : w1.cell? ⟨w.heap.size, 2, none⟩ = some (.int .u32 c.una) := B.cell 2
  have f_mx : w1.cell? ⟨w.heap.size, 4, none⟩ = some (.int .u32 c.mx) := B.cell 4
  go_wp2_with (fail)
  refine (implDist c.una c.mx _ n1 n3 (distI_is _ _) _).mono ?_
  rintro _ _ ⟨rfl, rfl⟩
  go_wp2_with (fail)
  refine (isWithin (distI c.una c.mx) 4098 _).mono ?_
  generalize decide (0 ≤ distI c.una c.mx ∧ distI c.una c.mx ≤ 4098) = k2 at hx0 ⊢
  rintro _ _ ⟨rfl, rfl⟩
  clear f_una f_mx
  cases k2
  · go_wp2_with (fail)
    go_ret
    exact ⟨ret_bool (by rw [hx0]; rfl), G⟩
  simp only [Bool.true_and] at hx0
  have f_nxt : w1.cell? ⟨w.heap.size, 3, none⟩ = some (.int .u32 c.nxt) := B.cell 3
  have f_mx : w1.cell? ⟨w.heap.size, 4, none⟩ = some (.int .u32 c.mx) := B.cell 4
  go_wp2_with (fail)
  refine (implLessEq c.nxt c.mx _ n2 n3 (distI_is _ _) _).mono ?_
  generalize decide (0 ≤ distI c.nxt c.mx) = k3 at hx0 ⊢
  rintro _ _ ⟨rfl, rfl⟩
  clear f_nxt f_mx
  go_wp2_with (fail)
  go_ret
  exact ⟨ret_bool hx0.symm, G⟩

set_option maxRecDepth 20000 in
set_option maxHeartbeats 8000000 in
theorem ticksOk (c : Cn) (w : World) :
    Calls Try.prog 50 #[cnVal c] w fun e w' => e = .returned (.bool (ticksB c)) ∧ Since w w' := by
  have B := Blk.new w (cnCells c) 53
  have G := (Since.refl w).alloc (.cells (cnCells c) 53)
  obtain ⟨x0, hx0⟩ : ∃ x, x = ticksB c := ⟨_, rfl⟩
  rw [← hx0]
  unfold ticksB at hx0
  unfold cnVal
  go_enter Try.func50, Try.ntmps50
  go_upto_region 1 with (fail)
  generalize w.alloc (.cells (cnCells c) 53) = w1 at B G ⊢
  have f_agn : w1.cell? ⟨w.heap.size, 31, none⟩ = some (.int .i64 c.agn) := B.cell 31
  go_wp2_with (fail)
  refine (isWithin c.agn 2000000000 _).mono ?_
  generalize decide (0 ≤ c.agn ∧ c.agn ≤ 2000000000) = k0 at hx0 ⊢
  rintro _ _ ⟨rfl, rfl⟩
  clear f_agn
  cases k0
  · go_wp2_with (fail)
    go_ret
    exact ⟨ret_bool (by rw [hx0]; rfl), G⟩
  simp only [Bool.true_and] at hx0
  have f_prb : w1.cell? ⟨w.heap.size, 32, none⟩ = some (.int .i64 c.prb) := B.cell 32
  go_wp2_with (fail)
  refine (isWithin c.prb 2000000000 _).mono ?_
  generalize decide (0 ≤ c.prb ∧ c.prb ≤ 2000000000) = k1 at hx0 ⊢
  rintro _ _ ⟨rfl, rfl⟩
  clear f_prb
  cases k1
  · go_wp2_with (fail)
    go_ret
    exact ⟨ret_bool (by rw [hx0]; rfl), G⟩
  simp only [Bool.true_and] at hx0
  have f_rst : w1.cell? ⟨w.heap.size, 33, none⟩ = some (.int .i64 c.rst) := B.cell 33
  go_wp2_with (fail)
  refine (isWithin c.rst 2000000000 _).mono ?_
  generalize decide (0 ≤ c.rst ∧ c.rst ≤ 2000000000) = k2 at hx0 ⊢
  rintro _ _ ⟨rfl, rfl⟩
  clear f_rst
  cases k2
  · go_wp2_with (fail)
    go_ret
    exact ⟨ret_bool (by rw [hx0]; rfl), G⟩
  simp only [Bool.true_and] at hx0
  have f_tat : w1.cell? ⟨w.heap.size, 30, none⟩ = some (.int .i64 c.tat) := B.cell 30
  go_wp2_with (fail)
  refine (isWithin c.tat 2000000000 _).mono ?_
  generalize decide (0 ≤ c.tat ∧ c.tat ≤ 2000000000) = k3 at hx0 ⊢
  rintro _ _ ⟨rfl, rfl⟩
  clear f_tat
  go_wp2_with (fail)
  go_ret
  exact ⟨ret_bool hx0.symm, G⟩

set_option maxRecDepth 20000 in
set_option maxHeartbeats 8000000 in
theorem outFits (c : Cn) (hf : IsWord c.oF) (hu : IsWord c.una) (w : World) :
    Calls Try.prog 51 #[cnVal c] w fun e w' => e = .returned (.bool (fitsB c)) ∧ Since w w' := by
  have B := Blk.new w (cnCells c) 53
  have G := (Since.refl w).alloc (.cells (cnCells c) 53)
  obtain ⟨x0, hx0⟩ : ∃ x, x = fitsB c := ⟨_, rfl⟩
  rw [← hx0]
  unfold fitsB at hx0
  unfold cnVal
  go_enter Try.func51, Try.ntmps51
  go_upto_region 1 with (fail)
  generalize w.alloc (.cells (cnCells c) 53) = w1 at B G ⊢
  have f_st : w1.cell? ⟨w.heap.size, 0, none⟩ = some (.int .i64 c.st) := B.cell 0
  have f_una : w1.cell? ⟨w.heap.size, 2, none⟩ = some (.int .u32 c.una) := B.cell 2
  have f_oF : w1.cell? ⟨w.heap.size, 8, none⟩ = some (.int .u32 c.oF) := B.cell 8
  have f_fsn : w1.cell? ⟨w.heap.size, 16, none⟩ = some (.bool c.fsn) := B.cell 16
  obtain ⟨hf0, hf1⟩ := hf
  obtain ⟨hu0, hu1⟩ := hu
  go_wp2_with (fail)
  all_goals go_ret
  all_goals refine ⟨ret_bool ?_, G⟩
  all_goals rw [hx0, Bool.eq_iff_iff]
  all_goals simp only [beq_iff_eq, beq_eq_false_iff_ne, ne_eq] at *
  all_goals clear B G f_st f_una f_oF
  all_goals cases hb : c.fsn
  all_goals simp
  all_goals omega

set_option maxRecDepth 20000 in
set_option maxHeartbeats 8000000 in
theorem implConnOk (c : Cn) (ps : List (Int × ByteArray)) (gc : GoodC c ps) (w : World) (R : Rd shP w c.pa c.pn ps) :
    Calls Try.prog 39 #[cnVal c] w fun e w' => e = .returned (.bool (connOk c ps)) ∧ Since w w' := by
  have B := Blk.new w (cnCells c) 53
  have G := (Since.refl w).alloc (.cells (cnCells c) 53)
  replace R := R.since G
  have hp := fun wx Rx => partsOk c ps gc wx Rx
  have hl := fun wx => placesOk c gc.w_una gc.w_nxt gc.w_mx wx
  have ht := fun wx => ticksOk c wx
  have hf := fun wx => outFits c gc.w_oF gc.w_una wx
  obtain ⟨x0, hx0⟩ : ∃ x, x = connOk c ps := ⟨_, rfl⟩
  rw [← hx0]
  rw [connOk_is] at hx0
  clear gc
  unfold cnVal at *
  go_enter Try.func39, Try.ntmps39
  go_upto_region 1 with (fail)
  generalize w.alloc (.cells (cnCells c) 53) = w1 at B G R ⊢
  have f_st : w1.cell? ⟨w.heap.size, 0, none⟩ = some (.int .i64 c.st) := B.cell 0
  go_wp2_with (fail)
  refine (isWithin c.st 9 _).mono ?_
  generalize decide (0 ≤ c.st ∧ c.st ≤ 9) = k0 at hx0 ⊢
  rintro _ _ ⟨rfl, rfl⟩
  clear f_st
  cases k0
  · go_wp2_with (fail)
    go_ret
    exact ⟨ret_bool (by rw [hx0]; rfl), G⟩
  simp only [Bool.true_and] at hx0
  rename_i hK
  refine hK _ _ ?_
  clear hK
  refine move_step rfl _ rfl ?_
  refine want_load B (by kernel_rfl) _ rfl rfl ?_
  refine want_call (by kernel_rfl) 47 #[.agg (cnCells c)] (by kernel_rfl) (hp _ R) ?_
  generalize partsB c ps = k1 at hx0 ⊢
  rintro _ w2 ⟨rfl, g2⟩
  refine ⟨_, rfl, ?_⟩
  replace G := G.trans g2
  replace B := B.since g2
  replace R := R.since g2
  cases k1
  · go_wp2_with (fail)
    go_ret
    exact ⟨ret_bool (by rw [hx0]; rfl), G⟩
  simp only [Bool.true_and] at hx0
  have f_wnd : w2.cell? ⟨w.heap.size, 5, none⟩ = some (.int .i64 c.wnd) := B.cell 5
  go_wp2_with (fail)
  refine (isHalf c.wnd _).mono ?_
  generalize decide (0 ≤ c.wnd ∧ c.wnd ≤ 65535) = k2 at hx0 ⊢
  rintro _ _ ⟨rfl, rfl⟩
  clear f_wnd
  cases k2
  · go_wp2_with (fail)
    go_ret
    exact ⟨ret_bool (by rw [hx0]; rfl), G⟩
  simp only [Bool.true_and] at hx0
  have f_trs : w2.cell? ⟨w.heap.size, 34, none⟩ = some (.int .i64 c.trs) := B.cell 34
  go_wp2_with (fail)
  refine (isWithin c.trs 10 _).mono ?_
  generalize decide (0 ≤ c.trs ∧ c.trs ≤ 10) = k3 at hx0 ⊢
  rintro _ _ ⟨rfl, rfl⟩
  clear f_trs
  cases k3
  · go_wp2_with (fail)
    go_ret
    exact ⟨ret_bool (by rw [hx0]; rfl), G⟩
  simp only [Bool.true_and] at hx0
  rename_i hK
  refine hK _ _ ?_
  clear hK
  refine step_val (w' := w2) rfl (.bool true) (by kernel_rfl) ?_
  refine move_step rfl _ rfl ?_
  refine want_load B (by kernel_rfl) _ rfl rfl ?_
  refine want_call (by kernel_rfl) 49 #[.agg (cnCells c)] (by kernel_rfl) (hl _) ?_
  generalize placesB c = k4 at hx0 ⊢
  rintro _ w3 ⟨rfl, g3⟩
  refine ⟨_, rfl, ?_⟩
  replace G := G.trans g3
  replace B := B.since g3
  replace R := R.since g3
  cases k4
  · go_wp2_with (fail)
    go_ret
    exact ⟨ret_bool (by rw [hx0]; rfl), G⟩
  simp only [Bool.true_and] at hx0
  refine step_val (w' := w3) rfl (.bool true) (by kernel_rfl) ?_
  refine move_step rfl _ rfl ?_
  refine want_load B (by kernel_rfl) _ rfl rfl ?_
  refine want_call (by kernel_rfl) 50 #[.agg (cnCells c)] (by kernel_rfl) (ht _) ?_
  generalize ticksB c = k5 at hx0 ⊢
  rintro _ w4 ⟨rfl, g4⟩
  refine ⟨_, rfl, ?_⟩
  replace G := G.trans g4
  replace B := B.since g4
  replace R := R.since g4
  cases k5
  · go_wp2_with (fail)
    go_ret
    exact ⟨ret_bool (by rw [hx0]; rfl), G⟩
  simp only [Bool.true_and] at hx0
  have f_why : w4.cell? ⟨w.heap.size, 35, none⟩ = some (.int .i64 c.why) := B.cell 35
  go_wp2_with (fail)
  refine (isWithin c.why 4 _).mono ?_
  generalize decide (0 ≤ c.why ∧ c.why ≤ 4) = k6 at hx0 ⊢
  rintro _ _ ⟨rfl, rfl⟩
  clear f_why
  cases k6
  · go_wp2_with (fail)
    go_ret
    exact ⟨ret_bool (by rw [hx0]; rfl), G⟩
  simp only [Bool.true_and] at hx0
  rename_i hK
  refine hK _ _ ?_
  clear hK
  refine step_val (w' := w4) rfl (.bool true) (by kernel_rfl) ?_
  refine move_step rfl _ rfl ?_
  refine want_load B (by kernel_rfl) _ rfl rfl ?_
  refine want_call (by kernel_rfl) 51 #[.agg (cnCells c)] (by kernel_rfl) (hf _) ?_
  generalize fitsB c = k7 at hx0 ⊢
  rintro _ w5 ⟨rfl, g5⟩
  refine ⟨_, rfl, ?_⟩
  replace G := G.trans g5
  replace B := B.since g5
  replace R := R.since g5
  go_wp2_with (fail)
  go_ret
  exact ⟨ret_bool hx0.symm, G⟩
end Go.Proofs.Ytpkenhcglnognaa
