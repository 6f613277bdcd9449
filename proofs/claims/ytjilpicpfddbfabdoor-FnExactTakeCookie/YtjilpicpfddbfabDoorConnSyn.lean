/-
  The segment by which an end asks, or answers who asked, as spec makes it.
-/
import Derived.Test.YtjilpicpfddbfabDoorConn
import Derived.Test.YtjilpicpfddbfabDoorRttB
import Derived.Test.YtjilpicpfddbfabDoorCong
import Derived.Test.YtjilpicpfddbfabDoorOut
import Derived.Test.YtjilpicpfddbfabDoorInOkS
import Derived.Deep.DeepCutAuto
import Derived.Test.YtjilpicpfddbfabDoorInHeldS
import Derived.Test.YtjilpicpfddbfabDoorSegTab
import Derived.Test.YtjilpicpfddbfabDoorM3
namespace Go.Proofs.YtjilpicpfddbfabDoor
open Go.ChangeShapes Go.WideShapes Go.ChangeAt Go.RowKit
set_option linter.unusedVariables false
set_option maxRecDepth 10000

/-- The segment by which an end asks, or answers who asked. -/
def synV (c : Cn) (ps : List (Int × ByteArray)) : Value := segVal 0 0 c.iss (if c.st = 2 then c.iN else 0) (if c.st = 2 then 18 else 2) (inRoomN c.iN c.iD c.iR ps) 100 ByteArray.empty

/-- The segment by which an end asks, or answers who asked. -/
def synSg (c : Cn) (ps : List (Int × ByteArray)) : Sg := ⟨0, 0, c.iss, if c.st = 2 then c.iN else 0, if c.st = 2 then 18 else 2, inRoomN c.iN c.iD c.iR ps, 100, ByteArray.empty⟩

set_option maxRecDepth 20000 in
set_option maxHeartbeats 8000000 in
theorem specSyn (c : Cn) (ps : List (Int × ByteArray)) (gd : Good c.iN c.iD c.iR c.pn ps) (w : World) (R : Rd shP w c.pa c.pn ps) :
    Calls Tryd.prog 46 #[cnVal c] w fun e w' => e = .returned (synV c ps) ∧ Since w w' := by
  have hroom := fun wx Rx => specInRoom c.iN c.iD c.iR c.pa c.pn c.pc ps gd wx Rx
  unfold synV segVal inVal at *
  generalize inRoomN c.iN c.iD c.iR ps = q at hroom ⊢
  obtain ⟨ak, hak⟩ : ∃ ak, ak = (if c.st = 2 then c.iN else 0) := ⟨_, rfl⟩
  obtain ⟨fl, hfl⟩ : ∃ fl : Int, fl = (if c.st = 2 then 18 else 2) := ⟨_, rfl⟩
  rw [← hak, ← hfl]
  clear gd
  unfold cnVal
  go_enter Tryd.func46, Tryd.ntmps46
  go_upto_region 1 with (fail)
  have A := (Blk.new w (cnCells c) 46).since ((Since.refl _).alloc (.cells #[.int .i64 0, .int .i64 0, .int .u32 0, .int .u32 0, .int .i64 0, .int .i64 0, .int .i64 0, .string ⟨#[]⟩] 28))
  have Z := Blk.new (w.alloc (.cells (cnCells c) 46)) #[.int .i64 0, .int .i64 0, .int .u32 0, .int .u32 0, .int .i64 0, .int .i64 0, .int .i64 0, .string ⟨#[]⟩] 28
  rw [World.size_alloc] at Z
  have G := ((Since.refl w).alloc (.cells (cnCells c) 46)).alloc (.cells #[.int .i64 0, .int .i64 0, .int .u32 0, .int .u32 0, .int .i64 0, .int .i64 0, .int .i64 0, .string ⟨#[]⟩] 28)
  replace R := R.since G
  generalize (w.alloc (.cells (cnCells c) 46)).alloc (.cells #[.int .i64 0, .int .i64 0, .int .u32 0, .int .u32 0, .int .i64 0, .int .i64 0, .int .i64 0, .string ⟨#[]⟩] 28) = w1 at A Z G R ⊢
  have hZ := Z.lt
  refine wp_region_tail (wb := w1) 7 (fun i x v => match i with
      | 0 => v = .pointer (some ⟨w.heap.size, 1, none⟩)
      | 1 => v = .int .u32 c.iss
      | 2 => v = .pointer (some ⟨w.heap.size, 11, none⟩)
      | 3 => v = .agg #[.int .u32 c.iN, .string c.iD, .slice c.pa c.pn c.pc, .int .i64 c.iR]
      | 4 => v = .int .i64 q
      | 5 => v = .agg #[.int .i64 0, .int .i64 0, .int .u32 c.iss, .int .u32 0, .int .i64 2, .int .i64 q, .int .i64 100, .string ⟨#[]⟩]
      | 6 => ∃ g, v = .pointer (some ⟨g, 0, none⟩) ∧ w1.heap.size ≤ g ∧ Blk g x #[.int .i64 0, .int .i64 0, .int .u32 0, .int .u32 0, .int .i64 0, .int .i64 0, .int .i64 0, .string ⟨#[]⟩]
      | _ => True) (fun v => { tmps := #[Value.agg (cnCells c), Value.pointer (some ⟨w.heap.size, 0, none⟩), Value.pointer (some ⟨w.heap.size + 1, 0, none⟩), v 6, v 0, v 1, v 2, v 3, v 4, v 5, undef, undef, undef, undef, undef, undef, undef, undef, undef], defers := [] }) (by kernel_rfl) (by kernel_rfl) (by kernel_rfl) (Since.refl _) ?_ (fun vals => by kernel_rfl) ?_ ?_
  case refine_1 =>
    intro i x x' v h1 h2
    match i, h2 with
    | 6, ⟨g, e, l, B⟩ => exact ⟨g, e, l, B.since h1⟩
    | 0, h2 | 1, h2 | 2, h2 | 3, h2 | 4, h2 | 5, h2 => exact h2
    | n + 7, _ => trivial
  case refine_2 =>
    repeat (first | exact eachDoes_nil | refine eachDoes_cons ?_ ?_)
    all_goals intro vals x hx hv
    all_goals simp [Region.binds] at hv
    · simp [does, doesUpon, go_sem]
      exact ⟨(Since.refl _).alloc _, hx.size, Blk.new x _ _⟩
    · simp [does, doesUpon, go_sem, hv, Since.refl]
    · simp [does, doesUpon, go_sem, hv]
      refine (hroom x (R.since hx)).mono ?_
      rintro _ x' ⟨rfl, h1⟩
      simp [h1]
    · have B := A.since hx
      have f_iN : x.cell? ⟨w.heap.size, 11, none⟩ = some (.int .u32 c.iN) := B.cell 11
      have f_iD : x.cell? ⟨w.heap.size, 12, none⟩ = some (.string c.iD) := B.cell 12
      have f_iP : x.cell? ⟨w.heap.size, 13, none⟩ = some (.slice c.pa c.pn c.pc) := B.cell 13
      have f_iR : x.cell? ⟨w.heap.size, 14, none⟩ = some (.int .i64 c.iR) := B.cell 14
      simp [does, doesUpon, go_sem, hv, f_iN, f_iD, f_iP, f_iR, Since.refl]
    · simp [does, doesUpon, go_sem, Since.refl]
    · have B := A.since hx
      have f_iss : x.cell? ⟨w.heap.size, 1, none⟩ = some (.int .u32 c.iss) := B.cell 1
      simp [does, doesUpon, go_sem, hv, f_iss, Since.refl]
    · simp [does, doesUpon, go_sem, Since.refl]
  case refine_3 =>
    intro vals x hx hv
    obtain ⟨g, h6, hg, S⟩ := hv 6 (by decide)
    have h5 : vals 5 = _ := hv 5 (by decide)
    clear hv
    simp only [h5, h6]
    clear h5 h6
    refine store_big seg_big rfl rfl (seg_one _ _ _ _ _ _ _ _) S rfl _ _ rfl rfl rfl ?_
    intro y ty S
    replace A := (A.since hx).touch ty (by omega)
    replace Z := (Z.since hx).touch ty (by omega)
    replace G := since_touch (G.trans hx) ty (by omega)
    clear hx ty R hroom
    by_cases h2 : c.st = 2
    · simp only [h2, if_true] at hak hfl
      subst hak hfl
      have f_st : y.cell? ⟨w.heap.size, 0, none⟩ = some (.int .i64 2) := by rw [← h2]; exact A.cell 0
      have f_iN : y.cell? ⟨w.heap.size, 11, none⟩ = some (.int .u32 c.iN) := A.cell 11
      have s4 : y.cell? ⟨g, 4, none⟩ = some (.int .i64 2) := S.cell 4
      have z4 := S.fz 4
      obtain ⟨y1, e1, t1, S1⟩ : ∃ y1, y.setCell ⟨g, 4, none⟩ (.int .i64 18) = y1 ∧ Touch g y y1 ∧ Blk g y1 #[.int .i64 0, .int .i64 0, .int .u32 c.iss, .int .u32 0, .int .i64 18, .int .i64 q, .int .i64 100, .string ⟨#[]⟩] := ⟨_, rfl, (Touch.refl g y).put 4 _, S.put 4 _ (by simp)⟩
      replace A := A.touch t1 (by omega)
      replace Z := Z.touch t1 (by omega)
      replace G := since_touch G t1 (by omega)
      have f_iN1 : y1.cell? ⟨w.heap.size, 11, none⟩ = some (.int .u32 c.iN) := A.cell 11
      have s3 : y1.cell? ⟨g, 3, none⟩ = some (.int .u32 0) := S1.cell 3
      have z3 := S1.fz 3
      obtain ⟨y2, e2, t2, S2⟩ : ∃ y2, y1.setCell ⟨g, 3, none⟩ (.int .u32 c.iN) = y2 ∧ Touch g y1 y2 ∧ Blk g y2 #[.int .i64 0, .int .i64 0, .int .u32 c.iss, .int .u32 c.iN, .int .i64 18, .int .i64 q, .int .i64 100, .string ⟨#[]⟩] := ⟨_, rfl, (Touch.refl g y1).put 3 _, S1.put 3 _ (by simp)⟩
      replace Z := Z.touch t2 (by omega)
      replace G := since_touch G t2 (by omega)
      go_upto_region 5 with (fail)
      refine wp_region_lit ?_
      refine load_big seg_big rfl S2 rfl _ rfl rfl ?_
      refine store_big seg_big rfl rfl (seg_one _ _ _ _ _ _ _ _) Z rfl _ _ rfl rfl rfl ?_
      intro z tz Bz
      replace G := since_touch G tz (by omega)
      go_wp2_with (fail)
      exact bodyPost_ret (results_big seg_big rfl rfl _ rfl Bz) rfl ⟨rfl, G⟩
    · simp only [h2, if_false] at hak hfl
      subst hak hfl
      have f_st : y.cell? ⟨w.heap.size, 0, none⟩ = some (.int .i64 c.st) := A.cell 0
      have h3 : (c.st == 2) = false := by simpa using h2
      go_upto_region 5 with (fail)
      refine wp_region_lit ?_
      refine load_big seg_big rfl S rfl _ rfl rfl ?_
      refine store_big seg_big rfl rfl (seg_one _ _ _ _ _ _ _ _) Z rfl _ _ rfl rfl rfl ?_
      intro z tz Bz
      replace G := since_touch G tz (by omega)
      go_wp2_with (fail)
      exact bodyPost_ret (results_big seg_big rfl rfl _ rfl Bz) rfl ⟨rfl, G⟩
end Go.Proofs.YtjilpicpfddbfabDoor
