/-
  An end that begins, as spec makes it.
-/
import Derived.Test.YtomnjegldbopiaaConnSyn
import Derived.Test.YtomnjegldbopiaaStep
import Derived.Great.BuildSlice
import Derived.Deep.DeepCutAuto
namespace Go.Proofs.Ytomnjegldbopiaa
open Go.ChangeShapes Go.WideShapes Go.ChangeAt Go.RowKit
set_option linter.unusedVariables false
set_option maxRecDepth 10000

/-- An end that begins, ahead of its buffers. -/
def startZ (a i now : Int) : Cn := { cnZero with st := a, iss := i, una := i, nxt := ((i + 1) % 4294967296), mx := ((i + 1) % 4294967296), cX := 200, cT := 8000, tmg := true, tsq := i, tat := now, agn := (now + 10) }

/-- An end that begins. -/
def startC (a i room now nx : Int) : Cn := { startZ a i now with oF := (i + 1) % 4294967296, oD := ByteArray.empty, oR := room, iN := nx, iD := ByteArray.empty, pa := none, pn := 0, pc := 0, iR := room }

set_option maxRecDepth 20000 in
set_option maxHeartbeats 8000000 in
theorem specStartC (a i room now nx : Int) (h0 : 0 ≤ now) (h1 : now ≤ 1000000000) (w : World) :
    Calls Try.prog 29 #[.int .i64 a, .int .u32 i, .int .i64 room, .int .i64 now, .int .u32 nx] w fun e w' => e = .returned (cnVal (startC a i room now nx)) ∧ Since w w' := by
  have k1 := fun wx => specStart 8000 wx
  rw [show min (max (8000 : Int) 200) 8000 = 8000 by omega] at k1
  unfold congVal at k1
  unfold cnVal
  have Z := Blk.new w (cnCells cnZero) 34
  have G := (Since.refl w).alloc (.cells (cnCells cnZero) 34)
  go_enter Try.func29, Try.ntmps29
  go_upto_region 1 with (fail)
  rw [cn_zero]
  generalize w.alloc (.cells (cnCells cnZero) 34) = x0 at Z G ⊢
  have hw : IntKind.i64.wrap (now + 10) = now + 10 := by rw [IntWalk.i64_left]; exact IntWalk.wrap64_in _ ⟨by omega, by omega⟩
  refine wp_region_lit ?_
  refine step_val (w' := x0) rfl (.int .i64 a) (by kernel_rfl) ?_
  refine step_val (w' := x0) rfl (.int .u32 i) (by kernel_rfl) ?_
  refine step_val (w' := x0) rfl (.int .u32 i) (by kernel_rfl) ?_
  refine step_val (w' := x0) rfl (.int .u32 i) (by kernel_rfl) ?_
  refine step_val (w' := x0) rfl (.int .u32 ((i + 1) % 4294967296)) (by kernel_rfl) ?_
  refine step_val (w' := x0) rfl (.int .u32 i) (by kernel_rfl) ?_
  refine step_val (w' := x0) rfl (.int .u32 ((i + 1) % 4294967296)) (by kernel_rfl) ?_
  refine call_step rfl 43 #[.int .i64 8000] (by kernel_rfl) (k1 _) ?_
  rintro _ x1 ⟨rfl, g1⟩
  refine ⟨_, rfl, ?_⟩
  replace Z := Z.since g1
  replace G := G.trans g1
  refine step_val (w' := x1) rfl (.int .u32 i) (by kernel_rfl) ?_
  refine step_val (w' := x1) rfl (.int .i64 now) (by kernel_rfl) ?_
  refine step_val (w' := x1) rfl (.int .i64 now) (by kernel_rfl) ?_
  refine step_val (w' := x1) rfl (.int .i64 (now + 10)) (by rw [← hw]; kernel_rfl) ?_
  refine step_val (w' := x1) rfl (.agg (cnCells (startZ a i now))) (by kernel_rfl) ?_
  refine step_val (w' := x1.alloc (.cells (cnCells cnZero) 34)) rfl (.pointer (some ⟨x1.heap.size, 0, none⟩)) (by kernel_rfl) ?_
  refine wpList_frame (a' := { tmps := #[.int .i64 a, .int .u32 i, .int .i64 room, .int .i64 now, .int .u32 nx, undef, undef, undef, undef, undef, .pointer (some ⟨w.heap.size, 0, none⟩), .pointer (some ⟨x1.heap.size, 0, none⟩), .int .i64 a, .int .u32 i, .int .u32 i, .int .u32 i, .int .u32 ((i + 1) % 4294967296), .int .u32 i, .int .u32 ((i + 1) % 4294967296), .agg #[.int .i64 200, .int .i64 8000, .int .i64 0, .bool false, .int .u32 0], .int .u32 i, .int .i64 now, .int .i64 now, .int .i64 (now + 10), .agg (cnCells (startZ a i now)), undef, undef, undef, undef, undef, undef, undef, undef, undef, undef], defers := [] }) (by kernel_rfl) ?_
  have hz1 := Z.lt
  have A := Blk.new x1 (cnCells cnZero) 34
  have g1' := (Since.refl x1).alloc (.cells (cnCells cnZero) 34)
  replace Z := Z.since g1'
  replace G := G.trans g1'
  refine store_cn A rfl _ _ rfl rfl rfl ?_
  intro x2 t2 A2
  replace Z := Z.touch t2 (by omega)
  replace G := since_touch G t2 (by omega)
  clear A t2 g1'
  have fs0_oF : x2.cell? ⟨x1.heap.size, 8, none⟩ = some (.int .u32 (startZ a i now).oF) := A2.cell 8
  have zs0 := A2.fz 8
  obtain ⟨ys0, es0, ts0, Bs0⟩ := put_cn (c' := { (startZ a i now) with oF := ((i + 1) % 4294967296) }) A2 8 (.int .u32 ((i + 1) % 4294967296)) (by decide) rfl
  replace Z := Z.touch ts0 (by omega)
  replace G := since_touch G ts0 (by omega)
  have fs1_oD : ys0.cell? ⟨x1.heap.size, 9, none⟩ = some (.string (startZ a i now).oD) := Bs0.cell 9
  have zs1 := Bs0.fz 9
  obtain ⟨ys1, es1, ts1, Bs1⟩ := put_cn (c' := { (startZ a i now) with oF := ((i + 1) % 4294967296), oD := ⟨#[]⟩ }) Bs0 9 (.string ⟨#[]⟩) (by decide) rfl
  replace Z := Z.touch ts1 (by omega)
  replace G := since_touch G ts1 (by omega)
  have fs2_oR : ys1.cell? ⟨x1.heap.size, 10, none⟩ = some (.int .i64 (startZ a i now).oR) := Bs1.cell 10
  have zs2 := Bs1.fz 10
  obtain ⟨ys2, es2, ts2, Bs2⟩ := put_cn (c' := { (startZ a i now) with oF := ((i + 1) % 4294967296), oD := ⟨#[]⟩, oR := room }) Bs1 10 (.int .i64 room) (by decide) rfl
  replace Z := Z.touch ts2 (by omega)
  replace G := since_touch G ts2 (by omega)
  have fs3_iN : ys2.cell? ⟨x1.heap.size, 11, none⟩ = some (.int .u32 (startZ a i now).iN) := Bs2.cell 11
  have zs3 := Bs2.fz 11
  obtain ⟨ys3, es3, ts3, Bs3⟩ := put_cn (c' := { (startZ a i now) with oF := ((i + 1) % 4294967296), oD := ⟨#[]⟩, oR := room, iN := nx }) Bs2 11 (.int .u32 nx) (by decide) rfl
  replace Z := Z.touch ts3 (by omega)
  replace G := since_touch G ts3 (by omega)
  have fs4_iD : ys3.cell? ⟨x1.heap.size, 12, none⟩ = some (.string (startZ a i now).iD) := Bs3.cell 12
  have zs4 := Bs3.fz 12
  obtain ⟨ys4, es4, ts4, Bs4⟩ := put_cn (c' := { (startZ a i now) with oF := ((i + 1) % 4294967296), oD := ⟨#[]⟩, oR := room, iN := nx, iD := ⟨#[]⟩ }) Bs3 12 (.string ⟨#[]⟩) (by decide) rfl
  replace Z := Z.touch ts4 (by omega)
  replace G := since_touch G ts4 (by omega)
  have fs5_iP : ys4.cell? ⟨x1.heap.size, 13, none⟩ = some (.slice (startZ a i now).pa (startZ a i now).pn (startZ a i now).pc) := Bs4.cell 13
  have zs5 := Bs4.fz 13
  obtain ⟨ys5, es5, ts5, Bs5⟩ := put_cn (c' := { (startZ a i now) with oF := ((i + 1) % 4294967296), oD := ⟨#[]⟩, oR := room, iN := nx, iD := ⟨#[]⟩, pa := none, pn := 0, pc := 0 }) Bs4 13 (.slice (none) (0) (0)) (by decide) rfl
  replace Z := Z.touch ts5 (by omega)
  replace G := since_touch G ts5 (by omega)
  have fs6_iR : ys5.cell? ⟨x1.heap.size, 14, none⟩ = some (.int .i64 (startZ a i now).iR) := Bs5.cell 14
  have zs6 := Bs5.fz 14
  obtain ⟨ys6, es6, ts6, Bs6⟩ := put_cn (c' := { (startZ a i now) with oF := ((i + 1) % 4294967296), oD := ⟨#[]⟩, oR := room, iN := nx, iD := ⟨#[]⟩, pa := none, pn := 0, pc := 0, iR := room }) Bs5 14 (.int .i64 room) (by decide) rfl
  replace Z := Z.touch ts6 (by omega)
  replace G := since_touch G ts6 (by omega)
  go_upto_region 4 with (fail)
  refine wp_region_lit ?_
  refine load_cn Bs6 rfl _ rfl rfl ?_
  refine store_cn Z rfl _ _ rfl rfl rfl ?_
  intro z tz Bz
  replace G := since_touch G tz (by omega)
  go_wp2_with (fail)
  exact bodyPost_ret (results_cn (t := 10) rfl _ rfl Bz) rfl ⟨rfl, G⟩

theorem results_cn3 {fn : Func} {t u v : Tmp} {b g : Nat} {w : World} {c : Cn} {s : Sg} (h : fn.results = #[.cell t 34, .cell u 58, .tmp v]) (tmps : Array Value) (hp : tmps.getD t undef = .pointer (some ⟨b, 0, none⟩)) (hu : tmps.getD u undef = .pointer (some ⟨g, 0, none⟩)) (B : Blk b w (cnCells c)) (S : Blk g w (sgCells s)) : (results fn tmps).run Try.prog w = .ok (.tuple #[.agg (cnCells c), .agg (sgCells s), tmps.getD v undef]) w := by
  have e := ret_cn B
  have e' := var_big seg_big rfl S
  have hq : tmps[t]?.getD undef = .pointer (some ⟨b, 0, none⟩) := by simpa using hp
  have hr : tmps[u]?.getD undef = .pointer (some ⟨g, 0, none⟩) := by simpa using hu
  simp [results, h, hq, hr, asAddr, e, e']

/-- What ConnAsk answers. -/
def askV (i room now : Int) : Value := if (1 ≤ room ∧ room ≤ 4096) ∧ 0 ≤ now ∧ now ≤ 1000000000 then .tuple #[cnVal (startC 1 i room now 0), sgVal (synSg (startC 1 i room now 0) []), .bool true] else .tuple #[cnVal cnZero, sgVal sgZero, .bool false]

set_option maxRecDepth 20000 in
set_option maxHeartbeats 8000000 in
theorem specAsk (i room now : Int) (hi : IsWord i) (w : World) :
    Calls Try.prog 18 #[.int .u32 i, .int .i64 room, .int .i64 now] w fun e w' => e = .returned (askV i room now) ∧ Since w w' := by
  have k1 := fun wx => specIn room 1 4096 wx
  have k2 := fun wx => specIn now 0 1000000000 wx
  obtain ⟨V, hV⟩ : ∃ V, Hid (V = askV i room now) := ⟨_, rfl⟩
  rw [← hV.out]
  go_enter Try.func18, Try.ntmps18
  go_upto_region 1 with (fail)
  rw [cn_zero, sg_zero]
  have G := ((Since.refl w).alloc (.cells (cnCells cnZero) 34)).alloc (.cells (sgCells sgZero) 58)
  have Z := (Blk.new w (cnCells cnZero) 34).since ((Since.refl _).alloc (.cells (sgCells sgZero) 58))
  have Y := Blk.new (w.alloc (.cells (cnCells cnZero) 34)) (sgCells sgZero) 58
  rw [World.size_alloc] at Y
  generalize (w.alloc (.cells (cnCells cnZero) 34)).alloc (.cells (sgCells sgZero) 58) = x0 at Z Y G ⊢
  by_cases ha : 1 ≤ room ∧ room ≤ 4096
  case neg =>
    have e : Hid (V = .tuple #[cnVal cnZero, sgVal sgZero, .bool false]) := hV.out.trans (if_neg fun h => ha h.1)
    rw [show decide (1 ≤ room ∧ room ≤ 4096) = false by simp [ha]] at k1
    clear ha k2
    go_wp2_with (fail)
    refine (k1 _).mono ?_
    rintro _ _ ⟨rfl, rfl⟩
    go_upto_region 2 with (fail)
    refine wp_region_lit ?_
    refine step_val (w' := x0) rfl (.agg (cnCells cnZero)) (by kernel_rfl) ?_
    refine step_val (w' := x0) rfl (.agg (sgCells sgZero)) (by kernel_rfl) ?_
    have hy0 := Y.lt
    refine store_cn Z rfl _ _ rfl rfl rfl ?_
    intro x3 t3 Z3
    replace Y := Y.touch t3 (by omega)
    replace G := since_touch G t3 (by omega)
    refine store_big seg_big rfl rfl (seg_one _ _ _ _ _ _ _ _) Y rfl _ _ rfl rfl rfl ?_
    intro x4 t4 Y4
    replace Z3 := Z3.touch t4 (by omega)
    replace G := since_touch G t4 (by omega)
    go_wp2_with (fail)
    refine bodyPost_ret (v := .tuple #[.agg (cnCells cnZero), .agg (sgCells sgZero), .bool false]) (results_cn3 (t := 6) (u := 7) (v := 8) rfl _ rfl rfl Z3 Y4) rfl ⟨by rw [e.out]; rfl, G⟩
  case pos =>
    rw [show decide (1 ≤ room ∧ room ≤ 4096) = true by simp [ha]] at k1
    by_cases hb : 0 ≤ now ∧ now ≤ 1000000000
    case neg =>
      have e : Hid (V = .tuple #[cnVal cnZero, sgVal sgZero, .bool false]) := hV.out.trans (if_neg fun h => hb h.2)
      rw [show decide (0 ≤ now ∧ now ≤ 1000000000) = false by simp [hb]] at k2
      clear ha hb
      go_wp2_with (fail)
      refine (k1 _).mono ?_
      rintro _ _ ⟨rfl, rfl⟩
      go_wp2_with (fail)
      refine (k2 _).mono ?_
      rintro _ _ ⟨rfl, rfl⟩
      go_upto_region 2 with (fail)
      refine wp_region_lit ?_
      refine step_val (w' := x0) rfl (.agg (cnCells cnZero)) (by kernel_rfl) ?_
      refine step_val (w' := x0) rfl (.agg (sgCells sgZero)) (by kernel_rfl) ?_
      have hy0 := Y.lt
      refine store_cn Z rfl _ _ rfl rfl rfl ?_
      intro x3 t3 Z3
      replace Y := Y.touch t3 (by omega)
      replace G := since_touch G t3 (by omega)
      refine store_big seg_big rfl rfl (seg_one _ _ _ _ _ _ _ _) Y rfl _ _ rfl rfl rfl ?_
      intro x4 t4 Y4
      replace Z3 := Z3.touch t4 (by omega)
      replace G := since_touch G t4 (by omega)
      go_wp2_with (fail)
      refine bodyPost_ret (v := .tuple #[.agg (cnCells cnZero), .agg (sgCells sgZero), .bool false]) (results_cn3 (t := 6) (u := 7) (v := 8) rfl _ rfl rfl Z3 Y4) rfl ⟨by rw [e.out]; rfl, G⟩
    case pos =>
      have e : Hid (V = .tuple #[cnVal (startC 1 i room now 0), sgVal (synSg (startC 1 i room now 0) []), .bool true]) := hV.out.trans (if_pos ⟨ha, hb⟩)
      rw [show decide (0 ≤ now ∧ now ≤ 1000000000) = true by simp [hb]] at k2
      have hst := fun wx => specStartC 1 i room now 0 hb.1 hb.2 wx
      have hsy := fun wx => specSyn (startC 1 i room now 0) [] ⟨⟨by show (0 : Int) ≤ 0; omega, by show (0 : Int) < 4294967296; omega⟩, by show ByteArray.empty.size ≤ 1048576; decide, ⟨by show -9223372036854775808 ≤ room; omega, by show room ≤ 9223372036854775807; omega⟩, by show 0 ≤ 1048576; omega, fun i hi => by cases hi⟩ wx ⟨rfl, Nat.zero_le _, fun i hi => by cases hi⟩
      change ∀ wx, Calls Try.prog 30 #[cnVal (startC 1 i room now 0)] wx fun e w' => e = .returned (.agg (sgCells (synSg (startC 1 i room now 0) []))) ∧ Since wx w' at hsy
      clear ha hb
      generalize synSg (startC 1 i room now 0) [] = S at hsy e
      generalize startC 1 i room now 0 = C at hst hsy e
      unfold cnVal at hst hsy
      go_wp2_with (fail)
      refine (k1 _).mono ?_
      rintro _ _ ⟨rfl, rfl⟩
      go_wp2_with (fail)
      refine (k2 _).mono ?_
      rintro _ _ ⟨rfl, rfl⟩
      go_upto_region 3 with (fail)
      refine wp_region_lit ?_
      refine step_val (w' := x0) rfl (.int .u32 i) (by kernel_rfl) ?_
      refine step_val (w' := x0) rfl (.int .i64 room) (by kernel_rfl) ?_
      refine step_val (w' := x0) rfl (.int .i64 now) (by kernel_rfl) ?_
      refine call_step rfl 29 #[.int .i64 1, .int .u32 i, .int .i64 room, .int .i64 now, .int .u32 0] (by kernel_rfl) (hst _) ?_
      rintro _ x1 ⟨rfl, g1⟩
      refine ⟨_, rfl, ?_⟩
      have hy0 := Y.lt
      have hs1 := g1.size
      have A := Blk.new x1 (cnCells cnZero) 34
      have g1' := (Since.refl x1).alloc (.cells (cnCells cnZero) 34)
      replace Z := (Z.since g1).since g1'
      replace Y := (Y.since g1).since g1'
      replace G := (G.trans g1).trans g1'
      refine step_val (w' := x1.alloc (.cells (cnCells cnZero) 34)) rfl (.pointer (some ⟨x1.heap.size, 0, none⟩)) (by kernel_rfl) ?_
      refine store_cn A rfl _ _ rfl rfl rfl ?_
      intro x2 t2 A2
      replace Z := Z.touch t2 (by omega)
      replace Y := Y.touch t2 (by omega)
      replace G := since_touch G t2 (by omega)
      clear A t2 g1 g1' hst k1 k2
      refine wpList_frame (a' := { tmps := #[.int .u32 i, .int .i64 room, .int .i64 now, undef, undef, undef, .pointer (some ⟨w.heap.size, 0, none⟩), .pointer (some ⟨w.heap.size + 1, 0, none⟩), .bool false, .pointer (some ⟨x1.heap.size, 0, none⟩), .int .i64 room, .bool true, .bool false, .bool false, .int .i64 now, .bool true, .bool false, .bool false, undef, undef, .int .u32 i, .int .i64 room, .int .i64 now, .agg (cnCells C), undef, undef, undef], defers := [] }) (by kernel_rfl) ?_
      go_upto_region 4 with (fail)
      refine wp_region_tail (wb := x2) 3 (fun i x v => match i with
          | 0 => v = .agg (cnCells C)
          | 1 => v = .agg (cnCells C)
          | 2 => v = .agg (sgCells S)
          | _ => True) (fun v => { tmps := #[Value.int IntKind.u32 i, Value.int IntKind.i64 room, Value.int IntKind.i64 now, undef, undef, undef, Value.pointer (some ⟨w.heap.size, 0, none⟩), Value.pointer (some ⟨w.heap.size + 1, 0, none⟩), Value.bool false, Value.pointer (some ⟨x1.heap.size, 0, none⟩), Value.int IntKind.i64 room, Value.bool true, Value.bool false, Value.bool false, Value.int IntKind.i64 now, Value.bool true, Value.bool false, Value.bool false, undef, undef, Value.int IntKind.u32 i, Value.int IntKind.i64 room, Value.int IntKind.i64 now, Value.agg (cnCells C), v 0, v 1, v 2], defers := [] }) (by kernel_rfl) (by kernel_rfl) (by kernel_rfl) (Since.refl _) ?_ (fun vals => by kernel_rfl) ?_ ?_
      case refine_1 =>
        intro i x x' v h1 h2
        match i, h2 with
        | 0, h2 | 1, h2 | 2, h2 => exact h2
        | n + 3, _ => trivial
      case refine_2 =>
        repeat (first | exact eachDoes_nil | refine eachDoes_cons ?_ ?_)
        all_goals intro vals x hx hv
        all_goals simp [Region.binds] at hv
        · simp [does, doesUpon, go_sem, hv]
          refine (hsy x).mono ?_
          rintro _ x' ⟨rfl, h1⟩
          simp [h1]
        · exact does_load cn_big (cn_size C) (A2.since hx) _ rfl rfl ⟨Since.refl _, rfl⟩
        · exact does_load cn_big (cn_size C) (A2.since hx) _ rfl rfl ⟨Since.refl _, rfl⟩
      case refine_3 =>
        intro vals x hx hv
        have h0 : vals 0 = _ := hv 0 (by decide)
        have h2 : vals 2 = _ := hv 2 (by decide)
        clear hv
        simp only [h0, h2, List.drop]
        replace Z := Z.since hx
        replace Y := Y.since hx
        replace G := G.trans hx
        refine store_cn Z rfl _ _ rfl rfl rfl ?_
        intro x3 t3 Z3
        replace Y := Y.touch t3 (by omega)
        replace G := since_touch G t3 (by omega)
        refine store_big seg_big rfl rfl (seg_one _ _ _ _ _ _ _ _) Y rfl _ _ rfl rfl rfl ?_
        intro x4 t4 Y4
        replace Z3 := Z3.touch t4 (by omega)
        replace G := since_touch G t4 (by omega)
        go_wp2_with (fail)
        refine bodyPost_ret (v := .tuple #[.agg (cnCells C), .agg (sgCells S), .bool true]) (results_cn3 (t := 6) (u := 7) (v := 8) rfl _ rfl rfl Z3 Y4) rfl ⟨by rw [e.out]; rfl, G⟩
end Go.Proofs.Ytomnjegldbopiaa
