/-
  An end that begins, as impl makes it.
-/
import Derived.Test.YtjilpicpfddbfabDoorConnStart
import Derived.Test.YtjilpicpfddbfabDoorWant
import Derived.Deep.RegionWith
import Derived.Deep.DeepCutAuto
namespace Go.Proofs.YtjilpicpfddbfabDoor
open Go.ChangeShapes Go.WideShapes Go.ChangeAt Go.RowKit
set_option linter.unusedVariables false
set_option maxRecDepth 10000

set_option maxRecDepth 20000 in
set_option maxHeartbeats 8000000 in
theorem implBegin (i room now : Int) (h0 : 0 ≤ now) (h1 : now ≤ 1000000000) (w : World) :
    Calls Tryd.prog 51 #[.int .u32 i, .int .i64 room, .int .i64 now] w fun e w' => e = .returned (cnVal (startC 1 i room now 0)) ∧ Since w w' := by
  have k1 := fun wx => implStart 8000 wx
  rw [show min (max (8000 : Int) 200) 8000 = 8000 by omega] at k1
  unfold cnVal
  have Z := Blk.new w (cnCells cnZero) 46
  have G := (Since.refl w).alloc (.cells (cnCells cnZero) 46)
  go_enter Tryd.func51, Tryd.ntmps51
  go_upto_region 1 with (fail)
  rw [cn_zero]
  generalize w.alloc (.cells (cnCells cnZero) 46) = x0 at Z G ⊢
  have hw : IntKind.i64.wrap (now + 10) = now + 10 := by rw [IntWalk.i64_left]; exact IntWalk.wrap64_in _ ⟨by omega, by omega⟩
  refine wp_region_lit ?_
  refine step_val (w' := x0) rfl (.int .u32 i) (by kernel_rfl) ?_
  refine step_val (w' := x0) rfl (.int .u32 i) (by kernel_rfl) ?_
  refine step_val (w' := x0) rfl (.int .u32 i) (by kernel_rfl) ?_
  refine step_val (w' := x0) rfl (.int .u32 ((i + 1) % 4294967296)) (by kernel_rfl) ?_
  refine step_val (w' := x0) rfl (.int .u32 i) (by kernel_rfl) ?_
  refine step_val (w' := x0) rfl (.int .u32 ((i + 1) % 4294967296)) (by kernel_rfl) ?_
  refine wpList_frame (a' := { tmps := #[.int .u32 i, .int .i64 room, .int .i64 now, undef, undef, undef, .pointer (some ⟨w.heap.size, 0, none⟩), .int .u32 i, .int .u32 i, .int .u32 i, .int .u32 ((i + 1) % 4294967296), .int .u32 i, .int .u32 ((i + 1) % 4294967296), undef, undef, undef, undef, undef, undef, undef, undef, undef, undef, undef, undef], defers := [] }) (by kernel_rfl) ?_
  refine step_val (w' := x0) rfl (.int .u32 i) (by kernel_rfl) ?_
  refine step_val (w' := x0) rfl (.int .u32 ((i + 1) % 4294967296)) (by kernel_rfl) ?_
  refine step_val (w' := x0) rfl (.int .i64 room) (by kernel_rfl) ?_
  refine step_val (w' := x0) rfl (.agg #[.int .u32 ((i + 1) % 4294967296), .string ByteArray.empty, .int .i64 room]) (by kernel_rfl) ?_
  refine step_val (w' := x0) rfl (.int .i64 room) (by kernel_rfl) ?_
  refine step_val (w' := x0) rfl (.agg #[.int .u32 0, .string ByteArray.empty, .slice none 0 0, .int .i64 room]) (by kernel_rfl) ?_
  refine wpList_frame (a' := { tmps := #[.int .u32 i, .int .i64 room, .int .i64 now, undef, undef, undef, .pointer (some ⟨w.heap.size, 0, none⟩), .int .u32 i, .int .u32 i, .int .u32 i, .int .u32 ((i + 1) % 4294967296), .int .u32 i, .int .u32 ((i + 1) % 4294967296), .int .u32 i, .int .u32 ((i + 1) % 4294967296), .int .i64 room, .agg #[.int .u32 ((i + 1) % 4294967296), .string ByteArray.empty, .int .i64 room], .int .i64 room, .agg #[.int .u32 0, .string ByteArray.empty, .slice none 0 0, .int .i64 room], undef, undef, undef, undef, undef, undef], defers := [] }) (by kernel_rfl) ?_
  refine call_step rfl 63 #[.int .i64 8000] (by kernel_rfl) (k1 _) ?_
  rintro _ x1 ⟨rfl, g1⟩
  refine ⟨_, rfl, ?_⟩
  replace Z := Z.since g1
  replace G := G.trans g1
  refine step_val (w' := x1) rfl (.int .i64 now) (by kernel_rfl) ?_
  refine step_val (w' := x1) rfl (.int .i64 (now + 10)) (by rw [← hw]; kernel_rfl) ?_
  refine step_val (w' := x1) rfl (.int .u32 i) (by kernel_rfl) ?_
  refine step_val (w' := x1) rfl (.int .i64 now) (by kernel_rfl) ?_
  refine wpList_frame (a' := { tmps := #[.int .u32 i, .int .i64 room, .int .i64 now, undef, undef, undef, .pointer (some ⟨w.heap.size, 0, none⟩), .int .u32 i, .int .u32 i, .int .u32 i, .int .u32 ((i + 1) % 4294967296), .int .u32 i, .int .u32 ((i + 1) % 4294967296), .int .u32 i, .int .u32 ((i + 1) % 4294967296), .int .i64 room, .agg #[.int .u32 ((i + 1) % 4294967296), .string ByteArray.empty, .int .i64 room], .int .i64 room, .agg #[.int .u32 0, .string ByteArray.empty, .slice none 0 0, .int .i64 room], congVal 200 8000 0 false 0, .int .i64 now, .int .i64 (now + 10), .int .u32 i, .int .i64 now, undef], defers := [] }) (by kernel_rfl) ?_
  refine step_val (w' := x1) rfl (.agg (cnCells (startC 1 i room now 0))) (by kernel_rfl) ?_
  refine store_cn Z rfl _ _ rfl rfl rfl ?_
  intro z tz Bz
  replace G := since_touch G tz (by omega)
  go_wp2_with (fail)
  exact bodyPost_ret (results_cn (t := 6) rfl _ rfl Bz) rfl ⟨rfl, G⟩

/-- The segment by which an end asks, or answers who asked, as impl makes it. -/
def synI (c : Cn) : Sg := ⟨0, 0, c.iss, if c.st = 2 then c.iN else 0, if c.st = 2 then 18 else 2, c.iR, 100, ByteArray.empty⟩

set_option maxRecDepth 20000 in
set_option maxHeartbeats 8000000 in
theorem implSyn (c : Cn) (w : World) :
    Calls Tryd.prog 53 #[cnVal c] w fun e w' => e = .returned (sgVal (synI c)) ∧ Since w w' := by
  unfold synI sgVal sgCells
  obtain ⟨ak, hak⟩ : ∃ ak, ak = (if c.st = 2 then c.iN else 0) := ⟨_, rfl⟩
  obtain ⟨fl, hfl⟩ : ∃ fl : Int, fl = (if c.st = 2 then 18 else 2) := ⟨_, rfl⟩
  simp only [← hak, ← hfl]
  unfold cnVal
  go_enter Tryd.func53, Tryd.ntmps53
  go_upto_region 1 with (fail)
  have A := (Blk.new w (cnCells c) 46).since ((Since.refl _).alloc (.cells #[.int .i64 0, .int .i64 0, .int .u32 0, .int .u32 0, .int .i64 0, .int .i64 0, .int .i64 0, .string ⟨#[]⟩] 28))
  have Z := Blk.new (w.alloc (.cells (cnCells c) 46)) #[.int .i64 0, .int .i64 0, .int .u32 0, .int .u32 0, .int .i64 0, .int .i64 0, .int .i64 0, .string ⟨#[]⟩] 28
  rw [World.size_alloc] at Z
  have G := ((Since.refl w).alloc (.cells (cnCells c) 46)).alloc (.cells #[.int .i64 0, .int .i64 0, .int .u32 0, .int .u32 0, .int .i64 0, .int .i64 0, .int .i64 0, .string ⟨#[]⟩] 28)
  generalize (w.alloc (.cells (cnCells c) 46)).alloc (.cells #[.int .i64 0, .int .i64 0, .int .u32 0, .int .u32 0, .int .i64 0, .int .i64 0, .int .i64 0, .string ⟨#[]⟩] 28) = w1 at A Z G ⊢
  have hZ := Z.lt
  have hA := A.lt
  have f_iss : w1.cell? ⟨w.heap.size, 1, none⟩ = some (.int .u32 c.iss) := A.cell 1
  have f_iR : w1.cell? ⟨w.heap.size, 14, none⟩ = some (.int .i64 c.iR) := A.cell 14
  refine wp_region_lit ?_
  refine step_val (w' := w1) rfl (.pointer (some ⟨w.heap.size, 1, none⟩)) (by kernel_rfl) ?_
  refine load_cell rfl _ _ rfl _ rfl _ f_iss (by kernel_rfl) ?_
  refine step_val (w' := w1) rfl (.pointer (some ⟨w.heap.size, 11, none⟩)) (by kernel_rfl) ?_
  refine step_val (w' := w1) rfl (.pointer (some ⟨w.heap.size, 14, none⟩)) (by kernel_rfl) ?_
  refine load_cell rfl _ _ rfl _ rfl _ f_iR (by kernel_rfl) ?_
  refine step_val (w' := w1) rfl (.agg #[.int .i64 0, .int .i64 0, .int .u32 c.iss, .int .u32 0, .int .i64 2, .int .i64 c.iR, .int .i64 100, .string ⟨#[]⟩]) (by kernel_rfl) ?_
  refine step_val (w' := w1.alloc (.cells #[.int .i64 0, .int .i64 0, .int .u32 0, .int .u32 0, .int .i64 0, .int .i64 0, .int .i64 0, .string ⟨#[]⟩] 28)) rfl (.pointer (some ⟨w1.heap.size, 0, none⟩)) (by kernel_rfl) ?_
  have S0 := Blk.new w1 #[.int .i64 0, .int .i64 0, .int .u32 0, .int .u32 0, .int .i64 0, .int .i64 0, .int .i64 0, .string ⟨#[]⟩] 28
  have g1 := (Since.refl w1).alloc (.cells #[.int .i64 0, .int .i64 0, .int .u32 0, .int .u32 0, .int .i64 0, .int .i64 0, .int .i64 0, .string ⟨#[]⟩] 28)
  replace A := A.since g1
  replace Z := Z.since g1
  replace G := G.trans g1
  have hg : w1.heap.size ≤ w1.heap.size := Nat.le_refl _
  obtain ⟨g, eg⟩ : ∃ g, g = w1.heap.size := ⟨_, rfl⟩
  refine store_big seg_big rfl rfl (seg_one _ _ _ _ _ _ _ _) S0 rfl _ _ rfl rfl rfl ?_
  intro y ty S
  rw [← eg] at ty S ⊢
  rw [← eg] at hZ hA
  clear f_iss f_iR S0 g1 hg eg
  replace A := A.touch ty (by omega)
  replace Z := Z.touch ty (by omega)
  replace G := since_touch G ty (by omega)
  clear ty
  by_cases h2 : c.st = 2
  · simp only [h2, if_true] at hak hfl
    subst hak hfl
    have f_st : y.cell? ⟨w.heap.size, 0, none⟩ = some (.int .i64 2) := by rw [← h2]; exact A.cell 0
    have f_iN : y.cell? ⟨w.heap.size, 11, none⟩ = some (.int .u32 c.iN) := A.cell 11
    have s4 : y.cell? ⟨g, 4, none⟩ = some (.int .i64 2) := S.cell 4
    have z4 := S.fz 4
    have s3' : y.cell? ⟨g, 3, none⟩ = some (.int .u32 0) := S.cell 3
    have z3' := S.fz 3
    obtain ⟨y1, e1, t1, S1⟩ : ∃ y1, y.setCell ⟨g, 4, none⟩ (.int .i64 18) = y1 ∧ Touch g y y1 ∧ Blk g y1 #[.int .i64 0, .int .i64 0, .int .u32 c.iss, .int .u32 0, .int .i64 18, .int .i64 c.iR, .int .i64 100, .string ⟨#[]⟩] := ⟨_, rfl, (Touch.refl g y).put 4 _, S.put 4 _ (by simp)⟩
    replace A := A.touch t1 (by omega)
    replace Z := Z.touch t1 (by omega)
    replace G := since_touch G t1 (by omega)
    have s3 : y1.cell? ⟨g, 3, none⟩ = some (.int .u32 0) := S1.cell 3
    have z3 := S1.fz 3
    obtain ⟨y2, e2, t2, S2⟩ : ∃ y2, y1.setCell ⟨g, 3, none⟩ (.int .u32 c.iN) = y2 ∧ Touch g y1 y2 ∧ Blk g y2 #[.int .i64 0, .int .i64 0, .int .u32 c.iss, .int .u32 c.iN, .int .i64 18, .int .i64 c.iR, .int .i64 100, .string ⟨#[]⟩] := ⟨_, rfl, (Touch.refl g y1).put 3 _, S1.put 3 _ (by simp)⟩
    replace Z := Z.touch t2 (by omega)
    replace G := since_touch G t2 (by omega)
    go_upto_region 3 with (fail)
    go_region
    rw [show bits BinOp.or IntKind.i64 2 16 = 18 by kernel_rfl, e1, e2]
    have gd := (Since.refl y2).drew
    replace S2 := S2.since gd
    replace Z := Z.since gd
    replace G := G.trans gd
    generalize y2.drew = y3 at S2 Z G ⊢
    clear gd e1 e2 t1 t2 S1 A s3 z3 s3' z3' s4 z4 f_iN f_st S
    go_upto_region 4 with (fail)
    refine wp_region_lit ?_
    refine load_big seg_big rfl S2 rfl _ rfl rfl ?_
    refine store_big seg_big rfl rfl (seg_one _ _ _ _ _ _ _ _) Z rfl _ _ rfl rfl rfl ?_
    intro z tz Bz
    replace G := since_touch G tz (by omega)
    go_wp2_with (fail)
    exact bodyPost_ret (results_big seg_big rfl rfl _ rfl Bz) rfl ⟨rfl, G⟩
  · simp only [h2, if_false] at hak hfl
    subst hak hfl
    have f_st : y.cell? ⟨w.heap.size, 0, none⟩ = some (.int .i64 c.st) := A.cell 0
    have h3 : (c.st == 2) = false := by simpa using h2
    go_upto_region 4 with (fail)
    refine wp_region_lit ?_
    refine load_big seg_big rfl S rfl _ rfl rfl ?_
    refine store_big seg_big rfl rfl (seg_one _ _ _ _ _ _ _ _) Z rfl _ _ rfl rfl rfl ?_
    intro z tz Bz
    replace G := since_touch G tz (by omega)
    go_wp2_with (fail)
    exact bodyPost_ret (results_big seg_big rfl rfl _ rfl Bz) rfl ⟨rfl, G⟩

theorem synI_is {a i room now nx : Int} (h : 1 ≤ room ∧ room ≤ 4096) : synI (startC a i room now nx) = synSg (startC a i room now nx) [] := by
  have e : inOk nx ByteArray.empty room [] = true := by
    unfold inOk
    have : ByteArray.empty.size = 0 := rfl
    simp [this, spans, okB]
    omega
  have e2 : inRoomN nx ByteArray.empty room [] = room := by
    unfold inRoomN
    rw [if_pos e]
    have : ByteArray.empty.size = 0 := rfl
    omega
  unfold synI synSg
  show Sg.mk 0 0 i _ _ room 100 _ = Sg.mk 0 0 i _ _ (inRoomN nx ByteArray.empty room []) 100 _
  rw [e2]
end Go.Proofs.YtjilpicpfddbfabDoor
