/-
  An end that begins, as spec makes it.
-/
import Derived.Test.YtjilpicpfddbfabDoorConnSyn
import Derived.Test.YtjilpicpfddbfabDoorStep
import Derived.Great.BuildSlice
import Derived.Deep.DeepCutAuto
namespace Go.Proofs.YtjilpicpfddbfabDoor
open Go.ChangeShapes Go.WideShapes Go.ChangeAt Go.RowKit
set_option linter.unusedVariables false
set_option maxRecDepth 10000

/-- An end that begins, ahead of its buffers. -/
def startZ (a i now : Int) : Cn := { cnZero with st := a, iss := i, una := i, nxt := ((i + 1) % 4294967296), mx := ((i + 1) % 4294967296), cX := 200, cT := 8000, tmg := true, tsq := i, tat := now, agn := (now + 10) }

/-- An end that begins. -/
def startC (a i room now nx : Int) : Cn := { startZ a i now with oF := (i + 1) % 4294967296, oD := ByteArray.empty, oR := room, iN := nx, iD := ByteArray.empty, pa := none, pn := 0, pc := 0, iR := room }

set_option maxRecDepth 20000 in
set_option maxHeartbeats 8000000 in
theorem specStartC (a i room now nx : Int) (h0 : 0 ≤ now) (h1 : now ≤ 1000000000) (w : World) :
    Calls Tryd.prog 45 #[.int .i64 a, .int .u32 i, .int .i64 room, .int .i64 now, .int .u32 nx] w fun e w' => e = .returned (cnVal (startC a i room now nx)) ∧ Since w w' := by
  have k1 := fun wx => specStart 8000 wx
  rw [show min (max (8000 : Int) 200) 8000 = 8000 by omega] at k1
  unfold congVal at k1
  unfold cnVal
  have Z := Blk.new w (cnCells cnZero) 46
  have G := (Since.refl w).alloc (.cells (cnCells cnZero) 46)
  go_enter Tryd.func45, Tryd.ntmps45
  go_upto_region 1 with (fail)
  rw [cn_zero]
  generalize w.alloc (.cells (cnCells cnZero) 46) = x0 at Z G ⊢
  have hw : IntKind.i64.wrap (now + 10) = now + 10 := by rw [IntWalk.i64_left]; exact IntWalk.wrap64_in _ ⟨by omega, by omega⟩
  refine wp_region_lit ?_
  refine step_val (w' := x0) rfl (.int .i64 a) (by kernel_rfl) ?_
  refine step_val (w' := x0) rfl (.int .u32 i) (by kernel_rfl) ?_
  refine step_val (w' := x0) rfl (.int .u32 i) (by kernel_rfl) ?_
  refine step_val (w' := x0) rfl (.int .u32 i) (by kernel_rfl) ?_
  refine step_val (w' := x0) rfl (.int .u32 ((i + 1) % 4294967296)) (by kernel_rfl) ?_
  refine step_val (w' := x0) rfl (.int .u32 i) (by kernel_rfl) ?_
  refine step_val (w' := x0) rfl (.int .u32 ((i + 1) % 4294967296)) (by kernel_rfl) ?_
  refine call_step rfl 57 #[.int .i64 8000] (by kernel_rfl) (k1 _) ?_
  rintro _ x1 ⟨rfl, g1⟩
  refine ⟨_, rfl, ?_⟩
  replace Z := Z.since g1
  replace G := G.trans g1
  refine step_val (w' := x1) rfl (.int .u32 i) (by kernel_rfl) ?_
  refine step_val (w' := x1) rfl (.int .i64 now) (by kernel_rfl) ?_
  refine step_val (w' := x1) rfl (.int .i64 now) (by kernel_rfl) ?_
  refine step_val (w' := x1) rfl (.int .i64 (now + 10)) (by rw [← hw]; kernel_rfl) ?_
  refine step_val (w' := x1) rfl (.agg (cnCells (startZ a i now))) (by kernel_rfl) ?_
  refine step_val (w' := x1.alloc (.cells (cnCells cnZero) 46)) rfl (.pointer (some ⟨x1.heap.size, 0, none⟩)) (by kernel_rfl) ?_
  refine wpList_frame (a' := { tmps := #[.int .i64 a, .int .u32 i, .int .i64 room, .int .i64 now, .int .u32 nx, undef, undef, undef, undef, undef, .pointer (some ⟨w.heap.size, 0, none⟩), .pointer (some ⟨x1.heap.size, 0, none⟩), .int .i64 a, .int .u32 i, .int .u32 i, .int .u32 i, .int .u32 ((i + 1) % 4294967296), .int .u32 i, .int .u32 ((i + 1) % 4294967296), .agg #[.int .i64 200, .int .i64 8000, .int .i64 0, .bool false, .int .u32 0], .int .u32 i, .int .i64 now, .int .i64 now, .int .i64 (now + 10), .agg (cnCells (startZ a i now)), undef, undef, undef, undef, undef, undef, undef, undef, undef, undef], defers := [] }) (by kernel_rfl) ?_
  have hz1 := Z.lt
  have A := Blk.new x1 (cnCells cnZero) 46
  have g1' := (Since.refl x1).alloc (.cells (cnCells cnZero) 46)
  replace Z := Z.since g1'
  replace G := G.trans g1'
  refine store_cn A rfl _ _ rfl rfl rfl ?_
  intro x2 t2 A2
  replace Z := Z.touch t2 (by omega)
  replace G := since_touch G t2 (by omega)
  clear A t2 g1'
  have fs0_oF : x2.cell? ⟨x1.heap.size, 8, none⟩ = some (.int .u32 (startZ a i now).oF) := A2.cell 8
  have zs0 := A2.fz 8
  obtain ⟨ys0, es0, ts0, Bs0⟩ := put_cn (c' := { (startZ a i now) with oF := ((i + 1) % 4294967296) }) A2 8 (.int .u32 ((i + 1) % 4294967296)) (by decide) rfl
  replace Z := Z.touch ts0 (by omega)
  replace G := since_touch G ts0 (by omega)
  have fs1_oD : ys0.cell? ⟨x1.heap.size, 9, none⟩ = some (.string (startZ a i now).oD) := Bs0.cell 9
  have zs1 := Bs0.fz 9
  obtain ⟨ys1, es1, ts1, Bs1⟩ := put_cn (c' := { (startZ a i now) with oF := ((i + 1) % 4294967296), oD := ⟨#[]⟩ }) Bs0 9 (.string ⟨#[]⟩) (by decide) rfl
  replace Z := Z.touch ts1 (by omega)
  replace G := since_touch G ts1 (by omega)
  have fs2_oR : ys1.cell? ⟨x1.heap.size, 10, none⟩ = some (.int .i64 (startZ a i now).oR) := Bs1.cell 10
  have zs2 := Bs1.fz 10
  obtain ⟨ys2, es2, ts2, Bs2⟩ := put_cn (c' := { (startZ a i now) with oF := ((i + 1) % 4294967296), oD := ⟨#[]⟩, oR := room }) Bs1 10 (.int .i64 room) (by decide) rfl
  replace Z := Z.touch ts2 (by omega)
  replace G := since_touch G ts2 (by omega)
  have fs3_iN : ys2.cell? ⟨x1.heap.size, 11, none⟩ = some (.int .u32 (startZ a i now).iN) := Bs2.cell 11
  have zs3 := Bs2.fz 11
  obtain ⟨ys3, es3, ts3, Bs3⟩ := put_cn (c' := { (startZ a i now) with oF := ((i + 1) % 4294967296), oD := ⟨#[]⟩, oR := room, iN := nx }) Bs2 11 (.int .u32 nx) (by decide) rfl
  replace Z := Z.touch ts3 (by omega)
  replace G := since_touch G ts3 (by omega)
  have fs4_iD : ys3.cell? ⟨x1.heap.size, 12, none⟩ = some (.string (startZ a i now).iD) := Bs3.cell 12
  have zs4 := Bs3.fz 12
  obtain ⟨ys4, es4, ts4, Bs4⟩ := put_cn (c' := { (startZ a i now) with oF := ((i + 1) % 4294967296), oD := ⟨#[]⟩, oR := room, iN := nx, iD := ⟨#[]⟩ }) Bs3 12 (.string ⟨#[]⟩) (by decide) rfl
  replace Z := Z.touch ts4 (by omega)
  replace G := since_touch G ts4 (by omega)
  have fs5_iP : ys4.cell? ⟨x1.heap.size, 13, none⟩ = some (.slice (startZ a i now).pa (startZ a i now).pn (startZ a i now).pc) := Bs4.cell 13
  have zs5 := Bs4.fz 13
  obtain ⟨ys5, es5, ts5, Bs5⟩ := put_cn (c' := { (startZ a i now) with oF := ((i + 1) % 4294967296), oD := ⟨#[]⟩, oR := room, iN := nx, iD := ⟨#[]⟩, pa := none, pn := 0, pc := 0 }) Bs4 13 (.slice (none) (0) (0)) (by decide) rfl
  replace Z := Z.touch ts5 (by omega)
  replace G := since_touch G ts5 (by omega)
  have fs6_iR : ys5.cell? ⟨x1.heap.size, 14, none⟩ = some (.int .i64 (startZ a i now).iR) := Bs5.cell 14
  have zs6 := Bs5.fz 14
  obtain ⟨ys6, es6, ts6, Bs6⟩ := put_cn (c' := { (startZ a i now) with oF := ((i + 1) % 4294967296), oD := ⟨#[]⟩, oR := room, iN := nx, iD := ⟨#[]⟩, pa := none, pn := 0, pc := 0, iR := room }) Bs5 14 (.int .i64 room) (by decide) rfl
  replace Z := Z.touch ts6 (by omega)
  replace G := since_touch G ts6 (by omega)
  go_upto_region 4 with (fail)
  refine wp_region_lit ?_
  refine load_cn Bs6 rfl _ rfl rfl ?_
  refine store_cn Z rfl _ _ rfl rfl rfl ?_
  intro z tz Bz
  replace G := since_touch G tz (by omega)
  go_wp2_with (fail)
  exact bodyPost_ret (results_cn (t := 10) rfl _ rfl Bz) rfl ⟨rfl, G⟩

theorem results_cn3 {fn : Func} {t u v : Tmp} {b g : Nat} {w : World} {c : Cn} {s : Sg} (h : fn.results = #[.cell t 46, .cell u 28, .tmp v]) (tmps : Array Value) (hp : tmps.getD t undef = .pointer (some ⟨b, 0, none⟩)) (hu : tmps.getD u undef = .pointer (some ⟨g, 0, none⟩)) (B : Blk b w (cnCells c)) (S : Blk g w (sgCells s)) : (results fn tmps).run Tryd.prog w = .ok (.tuple #[.agg (cnCells c), .agg (sgCells s), tmps.getD v undef]) w := by
  have e := ret_cn B
  have e' := var_big seg_big rfl S
  have hq : tmps[t]?.getD undef = .pointer (some ⟨b, 0, none⟩) := by simpa using hp
  have hr : tmps[u]?.getD undef = .pointer (some ⟨g, 0, none⟩) := by simpa using hu
  simp [results, h, hq, hr, asAddr, e, e']
end Go.Proofs.YtjilpicpfddbfabDoor
