/-
  What spec does to an end: it ends, and it takes the time of an answer.
-/
import Derived.Test.YtlccnnoofbclcaaConn
import Derived.Test.YtlccnnoofbclcaaM7
import Derived.Deep.DeepCutAuto
namespace Go.Proofs.Ytlccnnoofbclcaa
open Go.ChangeShapes Go.WideShapes Go.ChangeAt Go.RowKit
set_option linter.unusedVariables false
set_option maxRecDepth 10000

/-- An end that is ended. -/
def endC (c : Cn) (y : Int) : Cn := { c with st := 0, why := y, agn := 0, prb := 0, rst := 0, owe := false }

set_option maxRecDepth 20000 in
set_option maxHeartbeats 4000000 in
theorem specEnd (c : Cn) (y : Int) (w : World) :
    Calls Try.prog 48 #[cnVal c, .int .i64 y] w fun e w' => e = .returned (cnVal (endC c y)) ∧ Since w w' := by
  unfold cnVal
  go_enter Try.func48, Try.ntmps48
  go_upto_region 1 with (fail)
  rw [cn_zero]
  have A := (Blk.new w (cnCells c) 42).since ((Since.refl _).alloc (.cells (cnCells cnZero) 42))
  have Z := Blk.new (w.alloc (.cells (cnCells c) 42)) (cnCells cnZero) 42
  rw [World.size_alloc] at Z
  have G := ((Since.refl w).alloc (.cells (cnCells c) 42)).alloc (.cells (cnCells cnZero) 42)
  generalize (w.alloc (.cells (cnCells c) 42)).alloc (.cells (cnCells cnZero) 42) = w1 at A Z G ⊢
  have f0_st : w1.cell? ⟨w.heap.size, 0, none⟩ = some (.int .i64 c.st) := A.cell 0
  have z0 := A.fz 0
  obtain ⟨y0, e0, t0, B0⟩ := put_cn (c' := { c with st := 0 }) A 0 (.int .i64 0) (by decide) rfl
  replace Z := Z.touch t0 (by omega)
  replace G := since_touch G t0 (by omega)
  have f1_why : y0.cell? ⟨w.heap.size, 35, none⟩ = some (.int .i64 c.why) := B0.cell 35
  have z1 := B0.fz 35
  obtain ⟨y1, e1, t1, B1⟩ := put_cn (c' := { c with st := 0, why := y }) B0 35 (.int .i64 y) (by decide) rfl
  replace Z := Z.touch t1 (by omega)
  replace G := since_touch G t1 (by omega)
  have f2_agn : y1.cell? ⟨w.heap.size, 31, none⟩ = some (.int .i64 c.agn) := B1.cell 31
  have z2 := B1.fz 31
  obtain ⟨y2, e2, t2, B2⟩ := put_cn (c' := { c with st := 0, why := y, agn := 0 }) B1 31 (.int .i64 0) (by decide) rfl
  replace Z := Z.touch t2 (by omega)
  replace G := since_touch G t2 (by omega)
  have f3_prb : y2.cell? ⟨w.heap.size, 32, none⟩ = some (.int .i64 c.prb) := B2.cell 32
  have z3 := B2.fz 32
  obtain ⟨y3, e3, t3, B3⟩ := put_cn (c' := { c with st := 0, why := y, agn := 0, prb := 0 }) B2 32 (.int .i64 0) (by decide) rfl
  replace Z := Z.touch t3 (by omega)
  replace G := since_touch G t3 (by omega)
  have f4_rst : y3.cell? ⟨w.heap.size, 33, none⟩ = some (.int .i64 c.rst) := B3.cell 33
  have z4 := B3.fz 33
  obtain ⟨y4, e4, t4, B4⟩ := put_cn (c' := { c with st := 0, why := y, agn := 0, prb := 0, rst := 0 }) B3 33 (.int .i64 0) (by decide) rfl
  replace Z := Z.touch t4 (by omega)
  replace G := since_touch G t4 (by omega)
  have f5_owe : y4.cell? ⟨w.heap.size, 36, none⟩ = some (.bool c.owe) := B4.cell 36
  have z5 := B4.fz 36
  obtain ⟨y5, e5, t5, B5⟩ := put_cn (c' := { c with st := 0, why := y, agn := 0, prb := 0, rst := 0, owe := false }) B4 36 (.bool false) (by decide) rfl
  replace Z := Z.touch t5 (by omega)
  replace G := since_touch G t5 (by omega)
  go_upto_region 7 with (fail)
  refine wp_region_lit ?_
  refine load_cn B5 rfl _ rfl rfl ?_
  refine store_cn Z rfl _ _ rfl rfl rfl ?_
  intro z tz Bz
  replace G := since_touch G tz (by omega)
  go_wp2_with (fail)
  exact bodyPost_ret (results_cn rfl _ rfl Bz) rfl ⟨rfl, G⟩

/-- What RttSample answers, part by part. -/
def smp (a : Bool) (s v d r : Int) : Bool × Int × Int × Int := if rttOk a s v d && decide (0 ≤ r ∧ r ≤ 100000) then (true, sampleS a s r, sampleV a s v r, 0) else (false, 0, 0, 0)

/-- An end that has taken the time of an answer. -/
def timedC (c : Cn) (now : Int) : Cn := { c with rA := (smp c.rA c.rS c.rV c.rD (now - c.tat)).1, rS := (smp c.rA c.rS c.rV c.rD (now - c.tat)).2.1, rV := (smp c.rA c.rS c.rV c.rD (now - c.tat)).2.2.1, rD := (smp c.rA c.rS c.rV c.rD (now - c.tat)).2.2.2, tmg := false }
end Go.Proofs.Ytlccnnoofbclcaa
