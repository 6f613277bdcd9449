/-
  An end that was asked, as impl makes it.
-/
import Derived.Test.YtjilpicpfddbfabDoorLaid0
import Derived.Test.YtjilpicpfddbfabDoorConnAskI
import Derived.Test.YtjilpicpfddbfabDoorConnHear
import Derived.Deep.DeepCutAuto
namespace Go.Proofs.YtjilpicpfddbfabDoor
open Go.ChangeShapes Go.WideShapes Go.ChangeAt Go.RowKit
set_option linter.unusedVariables false
set_option maxRecDepth 10000

theorem synI_hear {s : Sg} {i room now : Int} (h : 1 ≤ room ∧ room ≤ 4096) : synI (hearC s i room now) = synSg (hearC s i room now) [] := by
  have e := synI_is (a := 2) (i := i) (now := now) (nx := (s.sq + 1) % 4294967296) h
  unfold synI synSg at e ⊢
  exact e

theorem hear_ask (s : Sg) (room now : Int) : hearOk s room now ↔ (1 ≤ room ∧ room ≤ 4096) ∧ (0 ≤ now ∧ now ≤ 1000000000) ∧ askOk s = true := by
  unfold hearOk askOk formOk
  constructor
  · rintro ⟨h1, h2, h3, h4, h5⟩
    refine ⟨h1, h2, ?_⟩
    have hz : s.d.size = 0 := by rw [h5]; rfl
    simp [h3, h5, h4]
  · rintro ⟨h1, h2, h3⟩
    simp at h3
    exact ⟨h1, h2, h3.1.1, h3.2.2.1, h3.1.2⟩

set_option maxRecDepth 20000 in
set_option maxHeartbeats 16000000 in
theorem implHear (s : Sg) (i room now : Int) (hi : IsWord i) (hq : IsWord s.sq) (hd : s.d.size ≤ 1048576) (w : World) (E : Laid0 w) :
    Calls Tryd.prog 29 #[sgVal s, .int .u32 i, .int .i64 room, .int .i64 now] w fun e w' => e = .returned (hearV s i room now) ∧ Since w w' := by
  have k1 := fun wx => isRoomI room wx
  have k2 := fun wx => isTickI now wx
  have k3 := fun wx => asking s hd wx
  obtain ⟨V, hV⟩ : ∃ V, Hid (V = hearV s i room now) := ⟨_, rfl⟩
  rw [← hV.out]
  have hok := hear_ask s room now
  replace hok : Hid _ := hok
  have hE := E.lt
  unfold sgVal
  go_enter Tryd.func29, Tryd.ntmps29
  go_upto_region 2 with (fail)
  rw [cn_zero, sg_zero, show (#[.string ⟨#[]⟩, .bool false, .bool false, .bool false] : Array Value) = mfCells ByteArray.empty false false false from rfl]
  have G := ((((Since.refl w).alloc (.cells (sgCells s) 28)).alloc (.cells (cnCells cnZero) 46)).alloc (.cells (sgCells sgZero) 28)).alloc (.cells (mfCells ByteArray.empty false false false) 75)
  have S := (Blk.new w (sgCells s) 28).since ((((Since.refl _).alloc (.cells (cnCells cnZero) 46)).alloc (.cells (sgCells sgZero) 28)).alloc (.cells (mfCells ByteArray.empty false false false) 75))
  have Z := (Blk.new (w.alloc (.cells (sgCells s) 28)) (cnCells cnZero) 46).since (((Since.refl _).alloc (.cells (sgCells sgZero) 28)).alloc (.cells (mfCells ByteArray.empty false false false) 75))
  have Y := (Blk.new ((w.alloc (.cells (sgCells s) 28)).alloc (.cells (cnCells cnZero) 46)) (sgCells sgZero) 28).since ((Since.refl _).alloc (.cells (mfCells ByteArray.empty false false false) 75))
  have F := Blk.new (((w.alloc (.cells (sgCells s) 28)).alloc (.cells (cnCells cnZero) 46)).alloc (.cells (sgCells sgZero) 28)) (mfCells ByteArray.empty false false false) 75
  simp only [World.size_alloc] at Z Y F
  replace E := E.since G
  generalize (((w.alloc (.cells (sgCells s) 28)).alloc (.cells (cnCells cnZero) 46)).alloc (.cells (sgCells sgZero) 28)).alloc (.cells (mfCells ByteArray.empty false false false) 75) = x0 at S Z Y F G E ⊢
  have hF := F.lt
  by_cases ha : 1 ≤ room ∧ room ≤ 4096
  case neg =>
    have e : Hid (V = .tuple #[cnVal cnZero, sgVal sgZero, .bool false]) := hV.out.trans (if_neg fun h => ha (hok.out.1 h).1)
    rw [show decide (1 ≤ room ∧ room ≤ 4096) = false by simp [ha]] at k1
    clear ha k2 k3
    refine wp_region_lit ?_
    refine step_val (w' := x0) rfl (.int .i64 room) (by kernel_rfl) ?_
    refine wpList_frame (a' := { tmps := #[.agg (sgCells s), .int .u32 i, .int .i64 room, .int .i64 now, .pointer (some ⟨w.heap.size, 0, none⟩), undef, undef, undef, .pointer (some ⟨w.heap.size + 1, 0, none⟩), .pointer (some ⟨w.heap.size + 1 + 1, 0, none⟩), .bool false, .pointer (some ⟨w.heap.size + 1 + 1 + 1, 0, none⟩), undef, .int .i64 room, undef, undef, undef, undef, undef, undef, undef, undef, undef, undef, undef, undef, undef, undef, undef, undef, undef, undef, undef, undef, undef, undef, undef, undef, undef, undef], defers := [] }) (by kernel_rfl) ?_
    refine call_step rfl 49 #[.int .i64 room] (by kernel_rfl) (k1 _) ?_
    rintro _ _ ⟨rfl, rfl⟩
    refine ⟨_, rfl, ?_⟩
    refine wpList_frame (a' := { tmps := #[.agg (sgCells s), .int .u32 i, .int .i64 room, .int .i64 now, .pointer (some ⟨w.heap.size, 0, none⟩), undef, undef, undef, .pointer (some ⟨w.heap.size + 1, 0, none⟩), .pointer (some ⟨w.heap.size + 1 + 1, 0, none⟩), .bool false, .pointer (some ⟨w.heap.size + 1 + 1 + 1, 0, none⟩), undef, .int .i64 room, .bool false, undef, undef, undef, undef, undef, undef, undef, undef, undef, undef, undef, undef, undef, undef, undef, undef, undef, undef, undef, undef, undef, undef, undef, undef, undef], defers := [] }) (by kernel_rfl) ?_
    refine step_val (w' := x0) rfl (.bool true) (by kernel_rfl) ?_
    refine wpList_frame (a' := { tmps := #[.agg (sgCells s), .int .u32 i, .int .i64 room, .int .i64 now, .pointer (some ⟨w.heap.size, 0, none⟩), undef, undef, undef, .pointer (some ⟨w.heap.size + 1, 0, none⟩), .pointer (some ⟨w.heap.size + 1 + 1, 0, none⟩), .bool false, .pointer (some ⟨w.heap.size + 1 + 1 + 1, 0, none⟩), undef, .int .i64 room, .bool false, .bool true, undef, undef, undef, undef, undef, undef, undef, undef, undef, undef, undef, undef, undef, undef, undef, undef, undef, undef, undef, undef, undef, undef, undef, undef], defers := [] }) (by kernel_rfl) ?_
    refine step_val (w' := x0) rfl (.bool true) (by kernel_rfl) ?_
    refine wpList_frame (a' := { tmps := #[.agg (sgCells s), .int .u32 i, .int .i64 room, .int .i64 now, .pointer (some ⟨w.heap.size, 0, none⟩), undef, undef, undef, .pointer (some ⟨w.heap.size + 1, 0, none⟩), .pointer (some ⟨w.heap.size + 1 + 1, 0, none⟩), .bool false, .pointer (some ⟨w.heap.size + 1 + 1 + 1, 0, none⟩), undef, .int .i64 room, .bool false, .bool true, .bool true, undef, undef, undef, undef, undef, undef, undef, undef, undef, undef, undef, undef, undef, undef, undef, undef, undef, undef, undef, undef, undef, undef, undef], defers := [] }) (by kernel_rfl) ?_
    refine want_skip (by kernel_rfl) ?_
    refine wpList_frame (a' := { tmps := #[.agg (sgCells s), .int .u32 i, .int .i64 room, .int .i64 now, .pointer (some ⟨w.heap.size, 0, none⟩), undef, undef, undef, .pointer (some ⟨w.heap.size + 1, 0, none⟩), .pointer (some ⟨w.heap.size + 1 + 1, 0, none⟩), .bool false, .pointer (some ⟨w.heap.size + 1 + 1 + 1, 0, none⟩), undef, .int .i64 room, .bool false, .bool true, .bool true, undef, undef, undef, undef, undef, undef, undef, undef, undef, undef, undef, undef, undef, undef, undef, undef, undef, undef, undef, undef, undef, undef, undef], defers := [] }) (by kernel_rfl) ?_
    refine want_skip (by kernel_rfl) ?_
    refine wpList_frame (a' := { tmps := #[.agg (sgCells s), .int .u32 i, .int .i64 room, .int .i64 now, .pointer (some ⟨w.heap.size, 0, none⟩), undef, undef, undef, .pointer (some ⟨w.heap.size + 1, 0, none⟩), .pointer (some ⟨w.heap.size + 1 + 1, 0, none⟩), .bool false, .pointer (some ⟨w.heap.size + 1 + 1 + 1, 0, none⟩), undef, .int .i64 room, .bool false, .bool true, .bool true, undef, undef, undef, undef, undef, undef, undef, undef, undef, undef, undef, undef, undef, undef, undef, undef, undef, undef, undef, undef, undef, undef, undef], defers := [] }) (by kernel_rfl) ?_
    refine want_skip (by kernel_rfl) ?_
    refine wpList_frame (a' := { tmps := #[.agg (sgCells s), .int .u32 i, .int .i64 room, .int .i64 now, .pointer (some ⟨w.heap.size, 0, none⟩), undef, undef, undef, .pointer (some ⟨w.heap.size + 1, 0, none⟩), .pointer (some ⟨w.heap.size + 1 + 1, 0, none⟩), .bool false, .pointer (some ⟨w.heap.size + 1 + 1 + 1, 0, none⟩), undef, .int .i64 room, .bool false, .bool true, .bool true, undef, undef, undef, undef, undef, undef, undef, undef, undef, undef, undef, undef, undef, undef, undef, undef, undef, undef, undef, undef, undef, undef, undef], defers := [] }) (by kernel_rfl) ?_
    refine step_val (w' := x0) rfl (.bool true) (by kernel_rfl) ?_
    refine wpList_frame (a' := { tmps := #[.agg (sgCells s), .int .u32 i, .int .i64 room, .int .i64 now, .pointer (some ⟨w.heap.size, 0, none⟩), undef, undef, undef, .pointer (some ⟨w.heap.size + 1, 0, none⟩), .pointer (some ⟨w.heap.size + 1 + 1, 0, none⟩), .bool false, .pointer (some ⟨w.heap.size + 1 + 1 + 1, 0, none⟩), undef, .int .i64 room, .bool false, .bool true, .bool true, undef, undef, undef, .bool true, undef, undef, undef, undef, undef, undef, undef, undef, undef, undef, undef, undef, undef, undef, undef, undef, undef, undef, undef], defers := [] }) (by kernel_rfl) ?_
    refine step_val (w' := x0) rfl (.bool true) (by kernel_rfl) ?_
    refine wpList_frame (a' := { tmps := #[.agg (sgCells s), .int .u32 i, .int .i64 room, .int .i64 now, .pointer (some ⟨w.heap.size, 0, none⟩), undef, undef, undef, .pointer (some ⟨w.heap.size + 1, 0, none⟩), .pointer (some ⟨w.heap.size + 1 + 1, 0, none⟩), .bool false, .pointer (some ⟨w.heap.size + 1 + 1 + 1, 0, none⟩), undef, .int .i64 room, .bool false, .bool true, .bool true, undef, undef, undef, .bool true, .bool true, undef, undef, undef, undef, undef, undef, undef, undef, undef, undef, undef, undef, undef, undef, undef, undef, undef, undef], defers := [] }) (by kernel_rfl) ?_
    refine want_skip (by kernel_rfl) ?_
    refine wpList_frame (a' := { tmps := #[.agg (sgCells s), .int .u32 i, .int .i64 room, .int .i64 now, .pointer (some ⟨w.heap.size, 0, none⟩), undef, undef, undef, .pointer (some ⟨w.heap.size + 1, 0, none⟩), .pointer (some ⟨w.heap.size + 1 + 1, 0, none⟩), .bool false, .pointer (some ⟨w.heap.size + 1 + 1 + 1, 0, none⟩), undef, .int .i64 room, .bool false, .bool true, .bool true, undef, undef, undef, .bool true, .bool true, undef, undef, undef, undef, undef, undef, undef, undef, undef, undef, undef, undef, undef, undef, undef, undef, undef, undef], defers := [] }) (by kernel_rfl) ?_
    refine want_skip (by kernel_rfl) ?_
    refine wpList_frame (a' := { tmps := #[.agg (sgCells s), .int .u32 i, .int .i64 room, .int .i64 now, .pointer (some ⟨w.heap.size, 0, none⟩), undef, undef, undef, .pointer (some ⟨w.heap.size + 1, 0, none⟩), .pointer (some ⟨w.heap.size + 1 + 1, 0, none⟩), .bool false, .pointer (some ⟨w.heap.size + 1 + 1 + 1, 0, none⟩), undef, .int .i64 room, .bool false, .bool true, .bool true, undef, undef, undef, .bool true, .bool true, undef, undef, undef, undef, undef, undef, undef, undef, undef, undef, undef, undef, undef, undef, undef, undef, undef, undef], defers := [] }) (by kernel_rfl) ?_
    refine want_skip (by kernel_rfl) ?_
    refine wpList_frame (a' := { tmps := #[.agg (sgCells s), .int .u32 i, .int .i64 room, .int .i64 now, .pointer (some ⟨w.heap.size, 0, none⟩), undef, undef, undef, .pointer (some ⟨w.heap.size + 1, 0, none⟩), .pointer (some ⟨w.heap.size + 1 + 1, 0, none⟩), .bool false, .pointer (some ⟨w.heap.size + 1 + 1 + 1, 0, none⟩), undef, .int .i64 room, .bool false, .bool true, .bool true, undef, undef, undef, .bool true, .bool true, undef, undef, undef, undef, undef, undef, undef, undef, undef, undef, undef, undef, undef, undef, undef, undef, undef, undef], defers := [] }) (by kernel_rfl) ?_
    refine want_skip (by kernel_rfl) ?_
    refine wpList_frame (a' := { tmps := #[.agg (sgCells s), .int .u32 i, .int .i64 room, .int .i64 now, .pointer (some ⟨w.heap.size, 0, none⟩), undef, undef, undef, .pointer (some ⟨w.heap.size + 1, 0, none⟩), .pointer (some ⟨w.heap.size + 1 + 1, 0, none⟩), .bool false, .pointer (some ⟨w.heap.size + 1 + 1 + 1, 0, none⟩), undef, .int .i64 room, .bool false, .bool true, .bool true, undef, undef, undef, .bool true, .bool true, undef, undef, undef, undef, undef, undef, undef, undef, undef, undef, undef, undef, undef, undef, undef, undef, undef, undef], defers := [] }) (by kernel_rfl) ?_
    refine step_val (w' := x0) rfl (.bool true) (by kernel_rfl) ?_
    refine wpList_frame (a' := { tmps := #[.agg (sgCells s), .int .u32 i, .int .i64 room, .int .i64 now, .pointer (some ⟨w.heap.size, 0, none⟩), undef, undef, undef, .pointer (some ⟨w.heap.size + 1, 0, none⟩), .pointer (some ⟨w.heap.size + 1 + 1, 0, none⟩), .bool false, .pointer (some ⟨w.heap.size + 1 + 1 + 1, 0, none⟩), undef, .int .i64 room, .bool false, .bool true, .bool true, undef, undef, undef, .bool true, .bool true, undef, undef, undef, undef, .bool true, undef, undef, undef, undef, undef, undef, undef, undef, undef, undef, undef, undef, undef], defers := [] }) (by kernel_rfl) ?_
    go_upto_region 3 with (fail)
    refine wp_region_lit ?_
    refine step_val (w' := x0) rfl (.agg (cnCells cnZero)) (by kernel_rfl) ?_
    refine step_val (w' := x0) rfl (.agg (sgCells sgZero)) (by kernel_rfl) ?_
    refine wpList_frame (a' := { tmps := #[.agg (sgCells s), .int .u32 i, .int .i64 room, .int .i64 now, .pointer (some ⟨w.heap.size, 0, none⟩), undef, undef, undef, .pointer (some ⟨w.heap.size + 1, 0, none⟩), .pointer (some ⟨w.heap.size + 1 + 1, 0, none⟩), .bool false, .pointer (some ⟨w.heap.size + 1 + 1 + 1, 0, none⟩), undef, .int .i64 room, .bool false, .bool true, .bool true, undef, undef, undef, .bool true, .bool true, undef, undef, undef, undef, .bool true, .agg (cnCells cnZero), .agg (sgCells sgZero), undef, undef, undef, undef, undef, undef, undef, undef, undef, undef, undef], defers := [] }) (by kernel_rfl) ?_
    refine store_big cn_big (cn_size _) (cn_size _) (cn_one _) Z rfl _ _ rfl rfl rfl ?_
    intro qw1 qt2 qB3
    clear Z
    replace S := S.touch qt2 (by omega)
    replace Y := Y.touch qt2 (by omega)
    replace F := F.touch qt2 (by omega)
    replace E := E.touch qt2 (by omega)
    replace G := since_touch G qt2 (by omega)
    have qt2_s := qt2.size
    refine wpList_frame (a' := { tmps := #[.agg (sgCells s), .int .u32 i, .int .i64 room, .int .i64 now, .pointer (some ⟨w.heap.size, 0, none⟩), undef, undef, undef, .pointer (some ⟨w.heap.size + 1, 0, none⟩), .pointer (some ⟨w.heap.size + 1 + 1, 0, none⟩), .bool false, .pointer (some ⟨w.heap.size + 1 + 1 + 1, 0, none⟩), undef, .int .i64 room, .bool false, .bool true, .bool true, undef, undef, undef, .bool true, .bool true, undef, undef, undef, undef, .bool true, .agg (cnCells cnZero), .agg (sgCells sgZero), undef, undef, undef, undef, undef, undef, undef, undef, undef, undef, undef], defers := [] }) (by kernel_rfl) ?_
    refine store_big seg_big rfl rfl (seg_one _ _ _ _ _ _ _ _) Y rfl _ _ rfl rfl rfl ?_
    intro qw4 qt5 qB6
    clear Y
    replace S := S.touch qt5 (by omega)
    replace qB3 := qB3.touch qt5 (by omega)
    replace F := F.touch qt5 (by omega)
    replace E := E.touch qt5 (by omega)
    replace G := since_touch G qt5 (by omega)
    have qt5_s := qt5.size
    refine step_val (w' := qw4) rfl (.bool false) (by kernel_rfl) ?_
    refine wpList_frame (a' := { tmps := #[.agg (sgCells s), .int .u32 i, .int .i64 room, .int .i64 now, .pointer (some ⟨w.heap.size, 0, none⟩), undef, undef, undef, .pointer (some ⟨w.heap.size + 1, 0, none⟩), .pointer (some ⟨w.heap.size + 1 + 1, 0, none⟩), .bool false, .pointer (some ⟨w.heap.size + 1 + 1 + 1, 0, none⟩), undef, .int .i64 room, .bool false, .bool true, .bool true, undef, undef, undef, .bool true, .bool true, undef, undef, undef, undef, .bool true, .agg (cnCells cnZero), .agg (sgCells sgZero), undef, undef, undef, undef, undef, undef, undef, undef, undef, undef, undef], defers := [] }) (by kernel_rfl) ?_
    go_wp2_with (fail)
    exact bodyPost_ret (v := .tuple #[.agg (cnCells cnZero), .agg (sgCells sgZero), .bool false]) (results_cn3 (t := 8) (u := 9) (v := 10) rfl _ rfl rfl qB3 qB6) rfl ⟨by rw [e.out]; rfl, G⟩
  case pos =>
    rw [show decide (1 ≤ room ∧ room ≤ 4096) = true by simp [ha]] at k1
    by_cases hb : 0 ≤ now ∧ now ≤ 1000000000
    case neg =>
      have e : Hid (V = .tuple #[cnVal cnZero, sgVal sgZero, .bool false]) := hV.out.trans (if_neg fun h => hb (hok.out.1 h).2.1)
      rw [show decide (0 ≤ now ∧ now ≤ 1000000000) = false by simp [hb]] at k2
      clear ha hb k3
      refine wp_region_lit ?_
      refine step_val (w' := x0) rfl (.int .i64 room) (by kernel_rfl) ?_
      refine wpList_frame (a' := { tmps := #[.agg (sgCells s), .int .u32 i, .int .i64 room, .int .i64 now, .pointer (some ⟨w.heap.size, 0, none⟩), undef, undef, undef, .pointer (some ⟨w.heap.size + 1, 0, none⟩), .pointer (some ⟨w.heap.size + 1 + 1, 0, none⟩), .bool false, .pointer (some ⟨w.heap.size + 1 + 1 + 1, 0, none⟩), undef, .int .i64 room, undef, undef, undef, undef, undef, undef, undef, undef, undef, undef, undef, undef, undef, undef, undef, undef, undef, undef, undef, undef, undef, undef, undef, undef, undef, undef], defers := [] }) (by kernel_rfl) ?_
      refine call_step rfl 49 #[.int .i64 room] (by kernel_rfl) (k1 _) ?_
      rintro _ _ ⟨rfl, rfl⟩
      refine ⟨_, rfl, ?_⟩
      refine wpList_frame (a' := { tmps := #[.agg (sgCells s), .int .u32 i, .int .i64 room, .int .i64 now, .pointer (some ⟨w.heap.size, 0, none⟩), undef, undef, undef, .pointer (some ⟨w.heap.size + 1, 0, none⟩), .pointer (some ⟨w.heap.size + 1 + 1, 0, none⟩), .bool false, .pointer (some ⟨w.heap.size + 1 + 1 + 1, 0, none⟩), undef, .int .i64 room, .bool true, undef, undef, undef, undef, undef, undef, undef, undef, undef, undef, undef, undef, undef, undef, undef, undef, undef, undef, undef, undef, undef, undef, undef, undef, undef], defers := [] }) (by kernel_rfl) ?_
      refine step_val (w' := x0) rfl (.bool false) (by kernel_rfl) ?_
      refine wpList_frame (a' := { tmps := #[.agg (sgCells s), .int .u32 i, .int .i64 room, .int .i64 now, .pointer (some ⟨w.heap.size, 0, none⟩), undef, undef, undef, .pointer (some ⟨w.heap.size + 1, 0, none⟩), .pointer (some ⟨w.heap.size + 1 + 1, 0, none⟩), .bool false, .pointer (some ⟨w.heap.size + 1 + 1 + 1, 0, none⟩), undef, .int .i64 room, .bool true, .bool false, undef, undef, undef, undef, undef, undef, undef, undef, undef, undef, undef, undef, undef, undef, undef, undef, undef, undef, undef, undef, undef, undef, undef, undef], defers := [] }) (by kernel_rfl) ?_
      refine step_val (w' := x0) rfl (.bool false) (by kernel_rfl) ?_
      refine wpList_frame (a' := { tmps := #[.agg (sgCells s), .int .u32 i, .int .i64 room, .int .i64 now, .pointer (some ⟨w.heap.size, 0, none⟩), undef, undef, undef, .pointer (some ⟨w.heap.size + 1, 0, none⟩), .pointer (some ⟨w.heap.size + 1 + 1, 0, none⟩), .bool false, .pointer (some ⟨w.heap.size + 1 + 1 + 1, 0, none⟩), undef, .int .i64 room, .bool true, .bool false, .bool false, undef, undef, undef, undef, undef, undef, undef, undef, undef, undef, undef, undef, undef, undef, undef, undef, undef, undef, undef, undef, undef, undef, undef], defers := [] }) (by kernel_rfl) ?_
      refine want_val (w' := x0) (by kernel_rfl) (.int .i64 now) (by kernel_rfl) ?_
      refine wpList_frame (a' := { tmps := #[.agg (sgCells s), .int .u32 i, .int .i64 room, .int .i64 now, .pointer (some ⟨w.heap.size, 0, none⟩), undef, undef, undef, .pointer (some ⟨w.heap.size + 1, 0, none⟩), .pointer (some ⟨w.heap.size + 1 + 1, 0, none⟩), .bool false, .pointer (some ⟨w.heap.size + 1 + 1 + 1, 0, none⟩), undef, .int .i64 room, .bool true, .bool false, .bool false, .int .i64 now, undef, undef, undef, undef, undef, undef, undef, undef, undef, undef, undef, undef, undef, undef, undef, undef, undef, undef, undef, undef, undef, undef], defers := [] }) (by kernel_rfl) ?_
      refine want_call (by kernel_rfl) 40 #[.int .i64 now] (by kernel_rfl) (k2 _) ?_
      rintro _ _ ⟨rfl, rfl⟩
      refine ⟨_, rfl, ?_⟩
      refine wpList_frame (a' := { tmps := #[.agg (sgCells s), .int .u32 i, .int .i64 room, .int .i64 now, .pointer (some ⟨w.heap.size, 0, none⟩), undef, undef, undef, .pointer (some ⟨w.heap.size + 1, 0, none⟩), .pointer (some ⟨w.heap.size + 1 + 1, 0, none⟩), .bool false, .pointer (some ⟨w.heap.size + 1 + 1 + 1, 0, none⟩), undef, .int .i64 room, .bool true, .bool false, .bool false, .int .i64 now, .bool false, undef, undef, undef, undef, undef, undef, undef, undef, undef, undef, undef, undef, undef, undef, undef, undef, undef, undef, undef, undef, undef], defers := [] }) (by kernel_rfl) ?_
      refine want_val (w' := x0) (by kernel_rfl) (.bool true) (by kernel_rfl) ?_
      refine wpList_frame (a' := { tmps := #[.agg (sgCells s), .int .u32 i, .int .i64 room, .int .i64 now, .pointer (some ⟨w.heap.size, 0, none⟩), undef, undef, undef, .pointer (some ⟨w.heap.size + 1, 0, none⟩), .pointer (some ⟨w.heap.size + 1 + 1, 0, none⟩), .bool false, .pointer (some ⟨w.heap.size + 1 + 1 + 1, 0, none⟩), undef, .int .i64 room, .bool true, .bool false, .bool false, .int .i64 now, .bool false, .bool true, undef, undef, undef, undef, undef, undef, undef, undef, undef, undef, undef, undef, undef, undef, undef, undef, undef, undef, undef, undef], defers := [] }) (by kernel_rfl) ?_
      refine step_val (w' := x0) rfl (.bool true) (by kernel_rfl) ?_
      refine wpList_frame (a' := { tmps := #[.agg (sgCells s), .int .u32 i, .int .i64 room, .int .i64 now, .pointer (some ⟨w.heap.size, 0, none⟩), undef, undef, undef, .pointer (some ⟨w.heap.size + 1, 0, none⟩), .pointer (some ⟨w.heap.size + 1 + 1, 0, none⟩), .bool false, .pointer (some ⟨w.heap.size + 1 + 1 + 1, 0, none⟩), undef, .int .i64 room, .bool true, .bool false, .bool false, .int .i64 now, .bool false, .bool true, .bool true, undef, undef, undef, undef, undef, undef, undef, undef, undef, undef, undef, undef, undef, undef, undef, undef, undef, undef, undef], defers := [] }) (by kernel_rfl) ?_
      refine step_val (w' := x0) rfl (.bool true) (by kernel_rfl) ?_
      refine wpList_frame (a' := { tmps := #[.agg (sgCells s), .int .u32 i, .int .i64 room, .int .i64 now, .pointer (some ⟨w.heap.size, 0, none⟩), undef, undef, undef, .pointer (some ⟨w.heap.size + 1, 0, none⟩), .pointer (some ⟨w.heap.size + 1 + 1, 0, none⟩), .bool false, .pointer (some ⟨w.heap.size + 1 + 1 + 1, 0, none⟩), undef, .int .i64 room, .bool true, .bool false, .bool false, .int .i64 now, .bool false, .bool true, .bool true, .bool true, undef, undef, undef, undef, undef, undef, undef, undef, undef, undef, undef, undef, undef, undef, undef, undef, undef, undef], defers := [] }) (by kernel_rfl) ?_
      refine want_skip (by kernel_rfl) ?_
      refine wpList_frame (a' := { tmps := #[.agg (sgCells s), .int .u32 i, .int .i64 room, .int .i64 now, .pointer (some ⟨w.heap.size, 0, none⟩), undef, undef, undef, .pointer (some ⟨w.heap.size + 1, 0, none⟩), .pointer (some ⟨w.heap.size + 1 + 1, 0, none⟩), .bool false, .pointer (some ⟨w.heap.size + 1 + 1 + 1, 0, none⟩), undef, .int .i64 room, .bool true, .bool false, .bool false, .int .i64 now, .bool false, .bool true, .bool true, .bool true, undef, undef, undef, undef, undef, undef, undef, undef, undef, undef, undef, undef, undef, undef, undef, undef, undef, undef], defers := [] }) (by kernel_rfl) ?_
      refine want_skip (by kernel_rfl) ?_
      refine wpList_frame (a' := { tmps := #[.agg (sgCells s), .int .u32 i, .int .i64 room, .int .i64 now, .pointer (some ⟨w.heap.size, 0, none⟩), undef, undef, undef, .pointer (some ⟨w.heap.size + 1, 0, none⟩), .pointer (some ⟨w.heap.size + 1 + 1, 0, none⟩), .bool false, .pointer (some ⟨w.heap.size + 1 + 1 + 1, 0, none⟩), undef, .int .i64 room, .bool true, .bool false, .bool false, .int .i64 now, .bool false, .bool true, .bool true, .bool true, undef, undef, undef, undef, undef, undef, undef, undef, undef, undef, undef, undef, undef, undef, undef, undef, undef, undef], defers := [] }) (by kernel_rfl) ?_
      refine want_skip (by kernel_rfl) ?_
      refine wpList_frame (a' := { tmps := #[.agg (sgCells s), .int .u32 i, .int .i64 room, .int .i64 now, .pointer (some ⟨w.heap.size, 0, none⟩), undef, undef, undef, .pointer (some ⟨w.heap.size + 1, 0, none⟩), .pointer (some ⟨w.heap.size + 1 + 1, 0, none⟩), .bool false, .pointer (some ⟨w.heap.size + 1 + 1 + 1, 0, none⟩), undef, .int .i64 room, .bool true, .bool false, .bool false, .int .i64 now, .bool false, .bool true, .bool true, .bool true, undef, undef, undef, undef, undef, undef, undef, undef, undef, undef, undef, undef, undef, undef, undef, undef, undef, undef], defers := [] }) (by kernel_rfl) ?_
      refine want_skip (by kernel_rfl) ?_
      refine wpList_frame (a' := { tmps := #[.agg (sgCells s), .int .u32 i, .int .i64 room, .int .i64 now, .pointer (some ⟨w.heap.size, 0, none⟩), undef, undef, undef, .pointer (some ⟨w.heap.size + 1, 0, none⟩), .pointer (some ⟨w.heap.size + 1 + 1, 0, none⟩), .bool false, .pointer (some ⟨w.heap.size + 1 + 1 + 1, 0, none⟩), undef, .int .i64 room, .bool true, .bool false, .bool false, .int .i64 now, .bool false, .bool true, .bool true, .bool true, undef, undef, undef, undef, undef, undef, undef, undef, undef, undef, undef, undef, undef, undef, undef, undef, undef, undef], defers := [] }) (by kernel_rfl) ?_
      refine step_val (w' := x0) rfl (.bool true) (by kernel_rfl) ?_
      refine wpList_frame (a' := { tmps := #[.agg (sgCells s), .int .u32 i, .int .i64 room, .int .i64 now, .pointer (some ⟨w.heap.size, 0, none⟩), undef, undef, undef, .pointer (some ⟨w.heap.size + 1, 0, none⟩), .pointer (some ⟨w.heap.size + 1 + 1, 0, none⟩), .bool false, .pointer (some ⟨w.heap.size + 1 + 1 + 1, 0, none⟩), undef, .int .i64 room, .bool true, .bool false, .bool false, .int .i64 now, .bool false, .bool true, .bool true, .bool true, undef, undef, undef, undef, .bool true, undef, undef, undef, undef, undef, undef, undef, undef, undef, undef, undef, undef, undef], defers := [] }) (by kernel_rfl) ?_
      go_upto_region 3 with (fail)
      refine wp_region_lit ?_
      refine step_val (w' := x0) rfl (.agg (cnCells cnZero)) (by kernel_rfl) ?_
      refine step_val (w' := x0) rfl (.agg (sgCells sgZero)) (by kernel_rfl) ?_
      refine wpList_frame (a' := { tmps := #[.agg (sgCells s), .int .u32 i, .int .i64 room, .int .i64 now, .pointer (some ⟨w.heap.size, 0, none⟩), undef, undef, undef, .pointer (some ⟨w.heap.size + 1, 0, none⟩), .pointer (some ⟨w.heap.size + 1 + 1, 0, none⟩), .bool false, .pointer (some ⟨w.heap.size + 1 + 1 + 1, 0, none⟩), undef, .int .i64 room, .bool true, .bool false, .bool false, .int .i64 now, .bool false, .bool true, .bool true, .bool true, undef, undef, undef, undef, .bool true, .agg (cnCells cnZero), .agg (sgCells sgZero), undef, undef, undef, undef, undef, undef, undef, undef, undef, undef, undef], defers := [] }) (by kernel_rfl) ?_
      refine store_big cn_big (cn_size _) (cn_size _) (cn_one _) Z rfl _ _ rfl rfl rfl ?_
      intro qw1 qt2 qB3
      clear Z
      replace S := S.touch qt2 (by omega)
      replace Y := Y.touch qt2 (by omega)
      replace F := F.touch qt2 (by omega)
      replace E := E.touch qt2 (by omega)
      replace G := since_touch G qt2 (by omega)
      have qt2_s := qt2.size
      refine wpList_frame (a' := { tmps := #[.agg (sgCells s), .int .u32 i, .int .i64 room, .int .i64 now, .pointer (some ⟨w.heap.size, 0, none⟩), undef, undef, undef, .pointer (some ⟨w.heap.size + 1, 0, none⟩), .pointer (some ⟨w.heap.size + 1 + 1, 0, none⟩), .bool false, .pointer (some ⟨w.heap.size + 1 + 1 + 1, 0, none⟩), undef, .int .i64 room, .bool true, .bool false, .bool false, .int .i64 now, .bool false, .bool true, .bool true, .bool true, undef, undef, undef, undef, .bool true, .agg (cnCells cnZero), .agg (sgCells sgZero), undef, undef, undef, undef, undef, undef, undef, undef, undef, undef, undef], defers := [] }) (by kernel_rfl) ?_
      refine store_big seg_big rfl rfl (seg_one _ _ _ _ _ _ _ _) Y rfl _ _ rfl rfl rfl ?_
      intro qw4 qt5 qB6
      clear Y
      replace S := S.touch qt5 (by omega)
      replace qB3 := qB3.touch qt5 (by omega)
      replace F := F.touch qt5 (by omega)
      replace E := E.touch qt5 (by omega)
      replace G := since_touch G qt5 (by omega)
      have qt5_s := qt5.size
      refine step_val (w' := qw4) rfl (.bool false) (by kernel_rfl) ?_
      refine wpList_frame (a' := { tmps := #[.agg (sgCells s), .int .u32 i, .int .i64 room, .int .i64 now, .pointer (some ⟨w.heap.size, 0, none⟩), undef, undef, undef, .pointer (some ⟨w.heap.size + 1, 0, none⟩), .pointer (some ⟨w.heap.size + 1 + 1, 0, none⟩), .bool false, .pointer (some ⟨w.heap.size + 1 + 1 + 1, 0, none⟩), undef, .int .i64 room, .bool true, .bool false, .bool false, .int .i64 now, .bool false, .bool true, .bool true, .bool true, undef, undef, undef, undef, .bool true, .agg (cnCells cnZero), .agg (sgCells sgZero), undef, undef, undef, undef, undef, undef, undef, undef, undef, undef, undef], defers := [] }) (by kernel_rfl) ?_
      go_wp2_with (fail)
      exact bodyPost_ret (v := .tuple #[.agg (cnCells cnZero), .agg (sgCells sgZero), .bool false]) (results_cn3 (t := 8) (u := 9) (v := 10) rfl _ rfl rfl qB3 qB6) rfl ⟨by rw [e.out]; rfl, G⟩
    case pos =>
      rw [show decide (0 ≤ now ∧ now ≤ 1000000000) = true by simp [hb]] at k2
      rcases Bool.eq_false_or_eq_true (askOk s) with hk | hk
      case inr =>
        have e : Hid (V = .tuple #[cnVal cnZero, sgVal sgZero, .bool false]) := hV.out.trans (if_neg fun h => by rw [(hok.out.1 h).2.2] at hk; cases hk)
        clear ha hb
        refine wp_region_lit ?_
        refine step_val (w' := x0) rfl (.int .i64 room) (by kernel_rfl) ?_
        refine wpList_frame (a' := { tmps := #[.agg (sgCells s), .int .u32 i, .int .i64 room, .int .i64 now, .pointer (some ⟨w.heap.size, 0, none⟩), undef, undef, undef, .pointer (some ⟨w.heap.size + 1, 0, none⟩), .pointer (some ⟨w.heap.size + 1 + 1, 0, none⟩), .bool false, .pointer (some ⟨w.heap.size + 1 + 1 + 1, 0, none⟩), undef, .int .i64 room, undef, undef, undef, undef, undef, undef, undef, undef, undef, undef, undef, undef, undef, undef, undef, undef, undef, undef, undef, undef, undef, undef, undef, undef, undef, undef], defers := [] }) (by kernel_rfl) ?_
        refine call_step rfl 49 #[.int .i64 room] (by kernel_rfl) (k1 _) ?_
        rintro _ _ ⟨rfl, rfl⟩
        refine ⟨_, rfl, ?_⟩
        refine wpList_frame (a' := { tmps := #[.agg (sgCells s), .int .u32 i, .int .i64 room, .int .i64 now, .pointer (some ⟨w.heap.size, 0, none⟩), undef, undef, undef, .pointer (some ⟨w.heap.size + 1, 0, none⟩), .pointer (some ⟨w.heap.size + 1 + 1, 0, none⟩), .bool false, .pointer (some ⟨w.heap.size + 1 + 1 + 1, 0, none⟩), undef, .int .i64 room, .bool true, undef, undef, undef, undef, undef, undef, undef, undef, undef, undef, undef, undef, undef, undef, undef, undef, undef, undef, undef, undef, undef, undef, undef, undef, undef], defers := [] }) (by kernel_rfl) ?_
        refine step_val (w' := x0) rfl (.bool false) (by kernel_rfl) ?_
        refine wpList_frame (a' := { tmps := #[.agg (sgCells s), .int .u32 i, .int .i64 room, .int .i64 now, .pointer (some ⟨w.heap.size, 0, none⟩), undef, undef, undef, .pointer (some ⟨w.heap.size + 1, 0, none⟩), .pointer (some ⟨w.heap.size + 1 + 1, 0, none⟩), .bool false, .pointer (some ⟨w.heap.size + 1 + 1 + 1, 0, none⟩), undef, .int .i64 room, .bool true, .bool false, undef, undef, undef, undef, undef, undef, undef, undef, undef, undef, undef, undef, undef, undef, undef, undef, undef, undef, undef, undef, undef, undef, undef, undef], defers := [] }) (by kernel_rfl) ?_
        refine step_val (w' := x0) rfl (.bool false) (by kernel_rfl) ?_
        refine wpList_frame (a' := { tmps := #[.agg (sgCells s), .int .u32 i, .int .i64 room, .int .i64 now, .pointer (some ⟨w.heap.size, 0, none⟩), undef, undef, undef, .pointer (some ⟨w.heap.size + 1, 0, none⟩), .pointer (some ⟨w.heap.size + 1 + 1, 0, none⟩), .bool false, .pointer (some ⟨w.heap.size + 1 + 1 + 1, 0, none⟩), undef, .int .i64 room, .bool true, .bool false, .bool false, undef, undef, undef, undef, undef, undef, undef, undef, undef, undef, undef, undef, undef, undef, undef, undef, undef, undef, undef, undef, undef, undef, undef], defers := [] }) (by kernel_rfl) ?_
        refine want_val (w' := x0) (by kernel_rfl) (.int .i64 now) (by kernel_rfl) ?_
        refine wpList_frame (a' := { tmps := #[.agg (sgCells s), .int .u32 i, .int .i64 room, .int .i64 now, .pointer (some ⟨w.heap.size, 0, none⟩), undef, undef, undef, .pointer (some ⟨w.heap.size + 1, 0, none⟩), .pointer (some ⟨w.heap.size + 1 + 1, 0, none⟩), .bool false, .pointer (some ⟨w.heap.size + 1 + 1 + 1, 0, none⟩), undef, .int .i64 room, .bool true, .bool false, .bool false, .int .i64 now, undef, undef, undef, undef, undef, undef, undef, undef, undef, undef, undef, undef, undef, undef, undef, undef, undef, undef, undef, undef, undef, undef], defers := [] }) (by kernel_rfl) ?_
        refine want_call (by kernel_rfl) 40 #[.int .i64 now] (by kernel_rfl) (k2 _) ?_
        rintro _ _ ⟨rfl, rfl⟩
        refine ⟨_, rfl, ?_⟩
        refine wpList_frame (a' := { tmps := #[.agg (sgCells s), .int .u32 i, .int .i64 room, .int .i64 now, .pointer (some ⟨w.heap.size, 0, none⟩), undef, undef, undef, .pointer (some ⟨w.heap.size + 1, 0, none⟩), .pointer (some ⟨w.heap.size + 1 + 1, 0, none⟩), .bool false, .pointer (some ⟨w.heap.size + 1 + 1 + 1, 0, none⟩), undef, .int .i64 room, .bool true, .bool false, .bool false, .int .i64 now, .bool true, undef, undef, undef, undef, undef, undef, undef, undef, undef, undef, undef, undef, undef, undef, undef, undef, undef, undef, undef, undef, undef], defers := [] }) (by kernel_rfl) ?_
        refine want_val (w' := x0) (by kernel_rfl) (.bool false) (by kernel_rfl) ?_
        refine wpList_frame (a' := { tmps := #[.agg (sgCells s), .int .u32 i, .int .i64 room, .int .i64 now, .pointer (some ⟨w.heap.size, 0, none⟩), undef, undef, undef, .pointer (some ⟨w.heap.size + 1, 0, none⟩), .pointer (some ⟨w.heap.size + 1 + 1, 0, none⟩), .bool false, .pointer (some ⟨w.heap.size + 1 + 1 + 1, 0, none⟩), undef, .int .i64 room, .bool true, .bool false, .bool false, .int .i64 now, .bool true, .bool false, undef, undef, undef, undef, undef, undef, undef, undef, undef, undef, undef, undef, undef, undef, undef, undef, undef, undef, undef, undef], defers := [] }) (by kernel_rfl) ?_
        refine step_val (w' := x0) rfl (.bool false) (by kernel_rfl) ?_
        refine wpList_frame (a' := { tmps := #[.agg (sgCells s), .int .u32 i, .int .i64 room, .int .i64 now, .pointer (some ⟨w.heap.size, 0, none⟩), undef, undef, undef, .pointer (some ⟨w.heap.size + 1, 0, none⟩), .pointer (some ⟨w.heap.size + 1 + 1, 0, none⟩), .bool false, .pointer (some ⟨w.heap.size + 1 + 1 + 1, 0, none⟩), undef, .int .i64 room, .bool true, .bool false, .bool false, .int .i64 now, .bool true, .bool false, .bool false, undef, undef, undef, undef, undef, undef, undef, undef, undef, undef, undef, undef, undef, undef, undef, undef, undef, undef, undef], defers := [] }) (by kernel_rfl) ?_
        refine step_val (w' := x0) rfl (.bool false) (by kernel_rfl) ?_
        refine wpList_frame (a' := { tmps := #[.agg (sgCells s), .int .u32 i, .int .i64 room, .int .i64 now, .pointer (some ⟨w.heap.size, 0, none⟩), undef, undef, undef, .pointer (some ⟨w.heap.size + 1, 0, none⟩), .pointer (some ⟨w.heap.size + 1 + 1, 0, none⟩), .bool false, .pointer (some ⟨w.heap.size + 1 + 1 + 1, 0, none⟩), undef, .int .i64 room, .bool true, .bool false, .bool false, .int .i64 now, .bool true, .bool false, .bool false, .bool false, undef, undef, undef, undef, undef, undef, undef, undef, undef, undef, undef, undef, undef, undef, undef, undef, undef, undef], defers := [] }) (by kernel_rfl) ?_
        refine want_big seg_big rfl S (by kernel_rfl) _ rfl rfl ?_
        refine wpList_frame (a' := { tmps := #[.agg (sgCells s), .int .u32 i, .int .i64 room, .int .i64 now, .pointer (some ⟨w.heap.size, 0, none⟩), undef, undef, undef, .pointer (some ⟨w.heap.size + 1, 0, none⟩), .pointer (some ⟨w.heap.size + 1 + 1, 0, none⟩), .bool false, .pointer (some ⟨w.heap.size + 1 + 1 + 1, 0, none⟩), undef, .int .i64 room, .bool true, .bool false, .bool false, .int .i64 now, .bool true, .bool false, .bool false, .bool false, .agg (sgCells s), undef, undef, undef, undef, undef, undef, undef, undef, undef, undef, undef, undef, undef, undef, undef, undef, undef], defers := [] }) (by kernel_rfl) ?_
        refine want_call (by kernel_rfl) 21 #[.agg (sgCells s)] (by kernel_rfl) (k3 _) ?_
        rintro _ qw1 ⟨⟨av, rfl, hv⟩, qg2⟩
        refine ⟨_, rfl, ?_⟩
        replace S := S.since qg2
        replace Z := Z.since qg2
        replace Y := Y.since qg2
        replace F := F.since qg2
        replace E := E.since qg2
        replace G := G.trans qg2
        have qg2_s := qg2.size
        rw [hk] at hv
        refine wpList_frame (a' := { tmps := #[.agg (sgCells s), .int .u32 i, .int .i64 room, .int .i64 now, .pointer (some ⟨w.heap.size, 0, none⟩), undef, undef, undef, .pointer (some ⟨w.heap.size + 1, 0, none⟩), .pointer (some ⟨w.heap.size + 1 + 1, 0, none⟩), .bool false, .pointer (some ⟨w.heap.size + 1 + 1 + 1, 0, none⟩), undef, .int .i64 room, .bool true, .bool false, .bool false, .int .i64 now, .bool true, .bool false, .bool false, .bool false, .agg (sgCells s), av, undef, undef, undef, undef, undef, undef, undef, undef, undef, undef, undef, undef, undef, undef, undef, undef], defers := [] }) (by kernel_rfl) ?_
        refine want_val (w' := qw1) (by kernel_rfl) (.iface 82 (.pointer (some ⟨w.heap.size + 1 + 1 + 1, 0, none⟩))) (by kernel_rfl) ?_
        refine wpList_frame (a' := { tmps := #[.agg (sgCells s), .int .u32 i, .int .i64 room, .int .i64 now, .pointer (some ⟨w.heap.size, 0, none⟩), undef, undef, undef, .pointer (some ⟨w.heap.size + 1, 0, none⟩), .pointer (some ⟨w.heap.size + 1 + 1, 0, none⟩), .bool false, .pointer (some ⟨w.heap.size + 1 + 1 + 1, 0, none⟩), undef, .int .i64 room, .bool true, .bool false, .bool false, .int .i64 now, .bool true, .bool false, .bool false, .bool false, .agg (sgCells s), av, .iface 82 (.pointer (some ⟨w.heap.size + 1 + 1 + 1, 0, none⟩)), undef, undef, undef, undef, undef, undef, undef, undef, undef, undef, undef, undef, undef, undef, undef], defers := [] }) (by kernel_rfl) ?_
        refine want_call (by kernel_rfl) 50 #[av, .iface 82 (.pointer (some ⟨w.heap.size + 1 + 1 + 1, 0, none⟩))] (by kernel_rfl) (as_fit false av hv _ _ E.at0 F) ?_
        rintro _ qw3 ⟨rfl, qt4, tt, qB5⟩
        refine ⟨_, rfl, ?_⟩
        clear F
        replace S := S.touch qt4 (by omega)
        replace Z := Z.touch qt4 (by omega)
        replace Y := Y.touch qt4 (by omega)
        replace E := E.touch qt4 (by omega)
        replace G := since_touch G qt4 (by omega)
        have qt4_s := qt4.size
        refine wpList_frame (a' := { tmps := #[.agg (sgCells s), .int .u32 i, .int .i64 room, .int .i64 now, .pointer (some ⟨w.heap.size, 0, none⟩), undef, undef, undef, .pointer (some ⟨w.heap.size + 1, 0, none⟩), .pointer (some ⟨w.heap.size + 1 + 1, 0, none⟩), .bool false, .pointer (some ⟨w.heap.size + 1 + 1 + 1, 0, none⟩), undef, .int .i64 room, .bool true, .bool false, .bool false, .int .i64 now, .bool true, .bool false, .bool false, .bool false, .agg (sgCells s), av, .iface 82 (.pointer (some ⟨w.heap.size + 1 + 1 + 1, 0, none⟩)), .bool true, undef, undef, undef, undef, undef, undef, undef, undef, undef, undef, undef, undef, undef, undef], defers := [] }) (by kernel_rfl) ?_
        refine step_val (w' := qw3) rfl (.bool true) (by kernel_rfl) ?_
        refine wpList_frame (a' := { tmps := #[.agg (sgCells s), .int .u32 i, .int .i64 room, .int .i64 now, .pointer (some ⟨w.heap.size, 0, none⟩), undef, undef, undef, .pointer (some ⟨w.heap.size + 1, 0, none⟩), .pointer (some ⟨w.heap.size + 1 + 1, 0, none⟩), .bool false, .pointer (some ⟨w.heap.size + 1 + 1 + 1, 0, none⟩), undef, .int .i64 room, .bool true, .bool false, .bool false, .int .i64 now, .bool true, .bool false, .bool false, .bool false, .agg (sgCells s), av, .iface 82 (.pointer (some ⟨w.heap.size + 1 + 1 + 1, 0, none⟩)), .bool true, .bool true, undef, undef, undef, undef, undef, undef, undef, undef, undef, undef, undef, undef, undef], defers := [] }) (by kernel_rfl) ?_
        go_upto_region 3 with (fail)
        refine wp_region_lit ?_
        refine step_val (w' := qw3) rfl (.agg (cnCells cnZero)) (by kernel_rfl) ?_
        refine step_val (w' := qw3) rfl (.agg (sgCells sgZero)) (by kernel_rfl) ?_
        refine wpList_frame (a' := { tmps := #[.agg (sgCells s), .int .u32 i, .int .i64 room, .int .i64 now, .pointer (some ⟨w.heap.size, 0, none⟩), undef, undef, undef, .pointer (some ⟨w.heap.size + 1, 0, none⟩), .pointer (some ⟨w.heap.size + 1 + 1, 0, none⟩), .bool false, .pointer (some ⟨w.heap.size + 1 + 1 + 1, 0, none⟩), undef, .int .i64 room, .bool true, .bool false, .bool false, .int .i64 now, .bool true, .bool false, .bool false, .bool false, .agg (sgCells s), av, .iface 82 (.pointer (some ⟨w.heap.size + 1 + 1 + 1, 0, none⟩)), .bool true, .bool true, .agg (cnCells cnZero), .agg (sgCells sgZero), undef, undef, undef, undef, undef, undef, undef, undef, undef, undef, undef], defers := [] }) (by kernel_rfl) ?_
        refine store_big cn_big (cn_size _) (cn_size _) (cn_one _) Z rfl _ _ rfl rfl rfl ?_
        intro qw6 qt7 qB8
        clear Z
        replace S := S.touch qt7 (by omega)
        replace Y := Y.touch qt7 (by omega)
        replace qB5 := qB5.touch qt7 (by omega)
        replace E := E.touch qt7 (by omega)
        replace G := since_touch G qt7 (by omega)
        have qt7_s := qt7.size
        refine wpList_frame (a' := { tmps := #[.agg (sgCells s), .int .u32 i, .int .i64 room, .int .i64 now, .pointer (some ⟨w.heap.size, 0, none⟩), undef, undef, undef, .pointer (some ⟨w.heap.size + 1, 0, none⟩), .pointer (some ⟨w.heap.size + 1 + 1, 0, none⟩), .bool false, .pointer (some ⟨w.heap.size + 1 + 1 + 1, 0, none⟩), undef, .int .i64 room, .bool true, .bool false, .bool false, .int .i64 now, .bool true, .bool false, .bool false, .bool false, .agg (sgCells s), av, .iface 82 (.pointer (some ⟨w.heap.size + 1 + 1 + 1, 0, none⟩)), .bool true, .bool true, .agg (cnCells cnZero), .agg (sgCells sgZero), undef, undef, undef, undef, undef, undef, undef, undef, undef, undef, undef], defers := [] }) (by kernel_rfl) ?_
        refine store_big seg_big rfl rfl (seg_one _ _ _ _ _ _ _ _) Y rfl _ _ rfl rfl rfl ?_
        intro qw9 qt10 qB11
        clear Y
        replace S := S.touch qt10 (by omega)
        replace qB8 := qB8.touch qt10 (by omega)
        replace qB5 := qB5.touch qt10 (by omega)
        replace E := E.touch qt10 (by omega)
        replace G := since_touch G qt10 (by omega)
        have qt10_s := qt10.size
        refine step_val (w' := qw9) rfl (.bool false) (by kernel_rfl) ?_
        refine wpList_frame (a' := { tmps := #[.agg (sgCells s), .int .u32 i, .int .i64 room, .int .i64 now, .pointer (some ⟨w.heap.size, 0, none⟩), undef, undef, undef, .pointer (some ⟨w.heap.size + 1, 0, none⟩), .pointer (some ⟨w.heap.size + 1 + 1, 0, none⟩), .bool false, .pointer (some ⟨w.heap.size + 1 + 1 + 1, 0, none⟩), undef, .int .i64 room, .bool true, .bool false, .bool false, .int .i64 now, .bool true, .bool false, .bool false, .bool false, .agg (sgCells s), av, .iface 82 (.pointer (some ⟨w.heap.size + 1 + 1 + 1, 0, none⟩)), .bool true, .bool true, .agg (cnCells cnZero), .agg (sgCells sgZero), undef, undef, undef, undef, undef, undef, undef, undef, undef, undef, undef], defers := [] }) (by kernel_rfl) ?_
        go_wp2_with (fail)
        exact bodyPost_ret (v := .tuple #[.agg (cnCells cnZero), .agg (sgCells sgZero), .bool false]) (results_cn3 (t := 8) (u := 9) (v := 10) rfl _ rfl rfl qB8 qB11) rfl ⟨by rw [e.out]; rfl, G⟩
      case inl =>
        have e : Hid (V = .tuple #[cnVal (hearC s i room now), sgVal (synSg (hearC s i room now) []), .bool true]) := hV.out.trans (if_pos (hok.out.2 ⟨ha, hb, hk⟩))
        have hsy := fun wx => implSyn (hearC s i room now) wx
        rw [synI_hear ha] at hsy
        unfold sgVal cnVal at hsy
        have hhc : ({ metC { startC 1 i room now 0 with st := 2 } s with wak := 0 } : Cn) = hearC s i room now := rfl
        refine wp_region_lit ?_
        refine step_val (w' := x0) rfl (.int .i64 room) (by kernel_rfl) ?_
        refine wpList_frame (a' := { tmps := #[.agg (sgCells s), .int .u32 i, .int .i64 room, .int .i64 now, .pointer (some ⟨w.heap.size, 0, none⟩), undef, undef, undef, .pointer (some ⟨w.heap.size + 1, 0, none⟩), .pointer (some ⟨w.heap.size + 1 + 1, 0, none⟩), .bool false, .pointer (some ⟨w.heap.size + 1 + 1 + 1, 0, none⟩), undef, .int .i64 room, undef, undef, undef, undef, undef, undef, undef, undef, undef, undef, undef, undef, undef, undef, undef, undef, undef, undef, undef, undef, undef, undef, undef, undef, undef, undef], defers := [] }) (by kernel_rfl) ?_
        refine call_step rfl 49 #[.int .i64 room] (by kernel_rfl) (k1 _) ?_
        rintro _ _ ⟨rfl, rfl⟩
        refine ⟨_, rfl, ?_⟩
        refine wpList_frame (a' := { tmps := #[.agg (sgCells s), .int .u32 i, .int .i64 room, .int .i64 now, .pointer (some ⟨w.heap.size, 0, none⟩), undef, undef, undef, .pointer (some ⟨w.heap.size + 1, 0, none⟩), .pointer (some ⟨w.heap.size + 1 + 1, 0, none⟩), .bool false, .pointer (some ⟨w.heap.size + 1 + 1 + 1, 0, none⟩), undef, .int .i64 room, .bool true, undef, undef, undef, undef, undef, undef, undef, undef, undef, undef, undef, undef, undef, undef, undef, undef, undef, undef, undef, undef, undef, undef, undef, undef, undef], defers := [] }) (by kernel_rfl) ?_
        refine step_val (w' := x0) rfl (.bool false) (by kernel_rfl) ?_
        refine wpList_frame (a' := { tmps := #[.agg (sgCells s), .int .u32 i, .int .i64 room, .int .i64 now, .pointer (some ⟨w.heap.size, 0, none⟩), undef, undef, undef, .pointer (some ⟨w.heap.size + 1, 0, none⟩), .pointer (some ⟨w.heap.size + 1 + 1, 0, none⟩), .bool false, .pointer (some ⟨w.heap.size + 1 + 1 + 1, 0, none⟩), undef, .int .i64 room, .bool true, .bool false, undef, undef, undef, undef, undef, undef, undef, undef, undef, undef, undef, undef, undef, undef, undef, undef, undef, undef, undef, undef, undef, undef, undef, undef], defers := [] }) (by kernel_rfl) ?_
        refine step_val (w' := x0) rfl (.bool false) (by kernel_rfl) ?_
        refine wpList_frame (a' := { tmps := #[.agg (sgCells s), .int .u32 i, .int .i64 room, .int .i64 now, .pointer (some ⟨w.heap.size, 0, none⟩), undef, undef, undef, .pointer (some ⟨w.heap.size + 1, 0, none⟩), .pointer (some ⟨w.heap.size + 1 + 1, 0, none⟩), .bool false, .pointer (some ⟨w.heap.size + 1 + 1 + 1, 0, none⟩), undef, .int .i64 room, .bool true, .bool false, .bool false, undef, undef, undef, undef, undef, undef, undef, undef, undef, undef, undef, undef, undef, undef, undef, undef, undef, undef, undef, undef, undef, undef, undef], defers := [] }) (by kernel_rfl) ?_
        refine want_val (w' := x0) (by kernel_rfl) (.int .i64 now) (by kernel_rfl) ?_
        refine wpList_frame (a' := { tmps := #[.agg (sgCells s), .int .u32 i, .int .i64 room, .int .i64 now, .pointer (some ⟨w.heap.size, 0, none⟩), undef, undef, undef, .pointer (some ⟨w.heap.size + 1, 0, none⟩), .pointer (some ⟨w.heap.size + 1 + 1, 0, none⟩), .bool false, .pointer (some ⟨w.heap.size + 1 + 1 + 1, 0, none⟩), undef, .int .i64 room, .bool true, .bool false, .bool false, .int .i64 now, undef, undef, undef, undef, undef, undef, undef, undef, undef, undef, undef, undef, undef, undef, undef, undef, undef, undef, undef, undef, undef, undef], defers := [] }) (by kernel_rfl) ?_
        refine want_call (by kernel_rfl) 40 #[.int .i64 now] (by kernel_rfl) (k2 _) ?_
        rintro _ _ ⟨rfl, rfl⟩
        refine ⟨_, rfl, ?_⟩
        refine wpList_frame (a' := { tmps := #[.agg (sgCells s), .int .u32 i, .int .i64 room, .int .i64 now, .pointer (some ⟨w.heap.size, 0, none⟩), undef, undef, undef, .pointer (some ⟨w.heap.size + 1, 0, none⟩), .pointer (some ⟨w.heap.size + 1 + 1, 0, none⟩), .bool false, .pointer (some ⟨w.heap.size + 1 + 1 + 1, 0, none⟩), undef, .int .i64 room, .bool true, .bool false, .bool false, .int .i64 now, .bool true, undef, undef, undef, undef, undef, undef, undef, undef, undef, undef, undef, undef, undef, undef, undef, undef, undef, undef, undef, undef, undef], defers := [] }) (by kernel_rfl) ?_
        refine want_val (w' := x0) (by kernel_rfl) (.bool false) (by kernel_rfl) ?_
        refine wpList_frame (a' := { tmps := #[.agg (sgCells s), .int .u32 i, .int .i64 room, .int .i64 now, .pointer (some ⟨w.heap.size, 0, none⟩), undef, undef, undef, .pointer (some ⟨w.heap.size + 1, 0, none⟩), .pointer (some ⟨w.heap.size + 1 + 1, 0, none⟩), .bool false, .pointer (some ⟨w.heap.size + 1 + 1 + 1, 0, none⟩), undef, .int .i64 room, .bool true, .bool false, .bool false, .int .i64 now, .bool true, .bool false, undef, undef, undef, undef, undef, undef, undef, undef, undef, undef, undef, undef, undef, undef, undef, undef, undef, undef, undef, undef], defers := [] }) (by kernel_rfl) ?_
        refine step_val (w' := x0) rfl (.bool false) (by kernel_rfl) ?_
        refine wpList_frame (a' := { tmps := #[.agg (sgCells s), .int .u32 i, .int .i64 room, .int .i64 now, .pointer (some ⟨w.heap.size, 0, none⟩), undef, undef, undef, .pointer (some ⟨w.heap.size + 1, 0, none⟩), .pointer (some ⟨w.heap.size + 1 + 1, 0, none⟩), .bool false, .pointer (some ⟨w.heap.size + 1 + 1 + 1, 0, none⟩), undef, .int .i64 room, .bool true, .bool false, .bool false, .int .i64 now, .bool true, .bool false, .bool false, undef, undef, undef, undef, undef, undef, undef, undef, undef, undef, undef, undef, undef, undef, undef, undef, undef, undef, undef], defers := [] }) (by kernel_rfl) ?_
        refine step_val (w' := x0) rfl (.bool false) (by kernel_rfl) ?_
        refine wpList_frame (a' := { tmps := #[.agg (sgCells s), .int .u32 i, .int .i64 room, .int .i64 now, .pointer (some ⟨w.heap.size, 0, none⟩), undef, undef, undef, .pointer (some ⟨w.heap.size + 1, 0, none⟩), .pointer (some ⟨w.heap.size + 1 + 1, 0, none⟩), .bool false, .pointer (some ⟨w.heap.size + 1 + 1 + 1, 0, none⟩), undef, .int .i64 room, .bool true, .bool false, .bool false, .int .i64 now, .bool true, .bool false, .bool false, .bool false, undef, undef, undef, undef, undef, undef, undef, undef, undef, undef, undef, undef, undef, undef, undef, undef, undef, undef], defers := [] }) (by kernel_rfl) ?_
        refine want_big seg_big rfl S (by kernel_rfl) _ rfl rfl ?_
        refine wpList_frame (a' := { tmps := #[.agg (sgCells s), .int .u32 i, .int .i64 room, .int .i64 now, .pointer (some ⟨w.heap.size, 0, none⟩), undef, undef, undef, .pointer (some ⟨w.heap.size + 1, 0, none⟩), .pointer (some ⟨w.heap.size + 1 + 1, 0, none⟩), .bool false, .pointer (some ⟨w.heap.size + 1 + 1 + 1, 0, none⟩), undef, .int .i64 room, .bool true, .bool false, .bool false, .int .i64 now, .bool true, .bool false, .bool false, .bool false, .agg (sgCells s), undef, undef, undef, undef, undef, undef, undef, undef, undef, undef, undef, undef, undef, undef, undef, undef, undef], defers := [] }) (by kernel_rfl) ?_
        refine want_call (by kernel_rfl) 21 #[.agg (sgCells s)] (by kernel_rfl) (k3 _) ?_
        rintro _ qw1 ⟨⟨av, rfl, hv⟩, qg2⟩
        refine ⟨_, rfl, ?_⟩
        replace S := S.since qg2
        replace Z := Z.since qg2
        replace Y := Y.since qg2
        replace F := F.since qg2
        replace E := E.since qg2
        replace G := G.trans qg2
        have qg2_s := qg2.size
        rw [hk] at hv
        refine wpList_frame (a' := { tmps := #[.agg (sgCells s), .int .u32 i, .int .i64 room, .int .i64 now, .pointer (some ⟨w.heap.size, 0, none⟩), undef, undef, undef, .pointer (some ⟨w.heap.size + 1, 0, none⟩), .pointer (some ⟨w.heap.size + 1 + 1, 0, none⟩), .bool false, .pointer (some ⟨w.heap.size + 1 + 1 + 1, 0, none⟩), undef, .int .i64 room, .bool true, .bool false, .bool false, .int .i64 now, .bool true, .bool false, .bool false, .bool false, .agg (sgCells s), av, undef, undef, undef, undef, undef, undef, undef, undef, undef, undef, undef, undef, undef, undef, undef, undef], defers := [] }) (by kernel_rfl) ?_
        refine want_val (w' := qw1) (by kernel_rfl) (.iface 82 (.pointer (some ⟨w.heap.size + 1 + 1 + 1, 0, none⟩))) (by kernel_rfl) ?_
        refine wpList_frame (a' := { tmps := #[.agg (sgCells s), .int .u32 i, .int .i64 room, .int .i64 now, .pointer (some ⟨w.heap.size, 0, none⟩), undef, undef, undef, .pointer (some ⟨w.heap.size + 1, 0, none⟩), .pointer (some ⟨w.heap.size + 1 + 1, 0, none⟩), .bool false, .pointer (some ⟨w.heap.size + 1 + 1 + 1, 0, none⟩), undef, .int .i64 room, .bool true, .bool false, .bool false, .int .i64 now, .bool true, .bool false, .bool false, .bool false, .agg (sgCells s), av, .iface 82 (.pointer (some ⟨w.heap.size + 1 + 1 + 1, 0, none⟩)), undef, undef, undef, undef, undef, undef, undef, undef, undef, undef, undef, undef, undef, undef, undef], defers := [] }) (by kernel_rfl) ?_
        refine want_call (by kernel_rfl) 50 #[av, .iface 82 (.pointer (some ⟨w.heap.size + 1 + 1 + 1, 0, none⟩))] (by kernel_rfl) (as_fit true av hv _ _ E.at0 F) ?_
        rintro _ qw3 ⟨rfl, qt4, tt, qB5⟩
        refine ⟨_, rfl, ?_⟩
        clear F
        replace S := S.touch qt4 (by omega)
        replace Z := Z.touch qt4 (by omega)
        replace Y := Y.touch qt4 (by omega)
        replace E := E.touch qt4 (by omega)
        replace G := since_touch G qt4 (by omega)
        have qt4_s := qt4.size
        refine wpList_frame (a' := { tmps := #[.agg (sgCells s), .int .u32 i, .int .i64 room, .int .i64 now, .pointer (some ⟨w.heap.size, 0, none⟩), undef, undef, undef, .pointer (some ⟨w.heap.size + 1, 0, none⟩), .pointer (some ⟨w.heap.size + 1 + 1, 0, none⟩), .bool false, .pointer (some ⟨w.heap.size + 1 + 1 + 1, 0, none⟩), undef, .int .i64 room, .bool true, .bool false, .bool false, .int .i64 now, .bool true, .bool false, .bool false, .bool false, .agg (sgCells s), av, .iface 82 (.pointer (some ⟨w.heap.size + 1 + 1 + 1, 0, none⟩)), .bool false, undef, undef, undef, undef, undef, undef, undef, undef, undef, undef, undef, undef, undef, undef], defers := [] }) (by kernel_rfl) ?_
        refine step_val (w' := qw3) rfl (.bool false) (by kernel_rfl) ?_
        refine wpList_frame (a' := { tmps := #[.agg (sgCells s), .int .u32 i, .int .i64 room, .int .i64 now, .pointer (some ⟨w.heap.size, 0, none⟩), undef, undef, undef, .pointer (some ⟨w.heap.size + 1, 0, none⟩), .pointer (some ⟨w.heap.size + 1 + 1, 0, none⟩), .bool false, .pointer (some ⟨w.heap.size + 1 + 1 + 1, 0, none⟩), undef, .int .i64 room, .bool true, .bool false, .bool false, .int .i64 now, .bool true, .bool false, .bool false, .bool false, .agg (sgCells s), av, .iface 82 (.pointer (some ⟨w.heap.size + 1 + 1 + 1, 0, none⟩)), .bool false, .bool false, undef, undef, undef, undef, undef, undef, undef, undef, undef, undef, undef, undef, undef], defers := [] }) (by kernel_rfl) ?_
        go_upto_region 4 with (fail)
        refine wp_region_lit ?_
        refine step_val (w' := qw3) rfl (.int .u32 i) (by kernel_rfl) ?_
        refine step_val (w' := qw3) rfl (.int .i64 room) (by kernel_rfl) ?_
        refine wpList_frame (a' := { tmps := #[.agg (sgCells s), .int .u32 i, .int .i64 room, .int .i64 now, .pointer (some ⟨w.heap.size, 0, none⟩), undef, undef, undef, .pointer (some ⟨w.heap.size + 1, 0, none⟩), .pointer (some ⟨w.heap.size + 1 + 1, 0, none⟩), .bool false, .pointer (some ⟨w.heap.size + 1 + 1 + 1, 0, none⟩), undef, .int .i64 room, .bool true, .bool false, .bool false, .int .i64 now, .bool true, .bool false, .bool false, .bool false, .agg (sgCells s), av, .iface 82 (.pointer (some ⟨w.heap.size + 1 + 1 + 1, 0, none⟩)), .bool false, .bool false, undef, undef, .int .u32 i, .int .i64 room, undef, undef, undef, undef, undef, undef, undef, undef, undef], defers := [] }) (by kernel_rfl) ?_
        refine step_val (w' := qw3) rfl (.int .i64 now) (by kernel_rfl) ?_
        refine call_step rfl 51 #[.int .u32 i, .int .i64 room, .int .i64 now] (by kernel_rfl) (implBegin i room now hb.1 hb.2 _) ?_
        rintro _ qw6 ⟨rfl, qg7⟩
        refine ⟨_, rfl, ?_⟩
        replace S := S.since qg7
        replace Z := Z.since qg7
        replace Y := Y.since qg7
        replace qB5 := qB5.since qg7
        replace E := E.since qg7
        replace G := G.trans qg7
        have qg7_s := qg7.size
        refine wpList_frame (a' := { tmps := #[.agg (sgCells s), .int .u32 i, .int .i64 room, .int .i64 now, .pointer (some ⟨w.heap.size, 0, none⟩), undef, undef, undef, .pointer (some ⟨w.heap.size + 1, 0, none⟩), .pointer (some ⟨w.heap.size + 1 + 1, 0, none⟩), .bool false, .pointer (some ⟨w.heap.size + 1 + 1 + 1, 0, none⟩), undef, .int .i64 room, .bool true, .bool false, .bool false, .int .i64 now, .bool true, .bool false, .bool false, .bool false, .agg (sgCells s), av, .iface 82 (.pointer (some ⟨w.heap.size + 1 + 1 + 1, 0, none⟩)), .bool false, .bool false, undef, undef, .int .u32 i, .int .i64 room, .int .i64 now, .agg (cnCells (startC 1 i room now 0)), undef, undef, undef, undef, undef, undef, undef], defers := [] }) (by kernel_rfl) ?_
        refine step_val (w' := qw6.alloc (.cells (cnCells cnZero) 46)) rfl (.pointer (some ⟨qw6.heap.size, 0, none⟩)) (by kernel_rfl) ?_
        have qB9 := Blk.new qw6 (cnCells cnZero) 46
        have qg10 := (Since.refl qw6).alloc (.cells (cnCells cnZero) 46)
        replace S := S.since qg10
        replace Z := Z.since qg10
        replace Y := Y.since qg10
        replace qB5 := qB5.since qg10
        replace E := E.since qg10
        replace G := G.trans qg10
        generalize qw6.alloc (.cells (cnCells cnZero) 46) = qw8 at S Z Y qB5 E G qB9 qg10 ⊢
        have qB9_l := qB9.lt
        have qg10_s := qg10.size
        refine wpList_frame (a' := { tmps := #[.agg (sgCells s), .int .u32 i, .int .i64 room, .int .i64 now, .pointer (some ⟨w.heap.size, 0, none⟩), undef, undef, undef, .pointer (some ⟨w.heap.size + 1, 0, none⟩), .pointer (some ⟨w.heap.size + 1 + 1, 0, none⟩), .bool false, .pointer (some ⟨w.heap.size + 1 + 1 + 1, 0, none⟩), .pointer (some ⟨qw6.heap.size, 0, none⟩), .int .i64 room, .bool true, .bool false, .bool false, .int .i64 now, .bool true, .bool false, .bool false, .bool false, .agg (sgCells s), av, .iface 82 (.pointer (some ⟨w.heap.size + 1 + 1 + 1, 0, none⟩)), .bool false, .bool false, undef, undef, .int .u32 i, .int .i64 room, .int .i64 now, .agg (cnCells (startC 1 i room now 0)), undef, undef, undef, undef, undef, undef, undef], defers := [] }) (by kernel_rfl) ?_
        refine store_big cn_big (cn_size _) (cn_size _) (cn_one _) qB9 rfl _ _ rfl rfl rfl ?_
        intro qw11 qt12 qB13
        clear qB9
        replace S := S.touch qt12 (by omega)
        replace Z := Z.touch qt12 (by omega)
        replace Y := Y.touch qt12 (by omega)
        replace qB5 := qB5.touch qt12 (by omega)
        replace E := E.touch qt12 (by omega)
        replace G := since_touch G qt12 (by omega)
        have qt12_s := qt12.size
        refine wpList_frame (a' := { tmps := #[.agg (sgCells s), .int .u32 i, .int .i64 room, .int .i64 now, .pointer (some ⟨w.heap.size, 0, none⟩), undef, undef, undef, .pointer (some ⟨w.heap.size + 1, 0, none⟩), .pointer (some ⟨w.heap.size + 1 + 1, 0, none⟩), .bool false, .pointer (some ⟨w.heap.size + 1 + 1 + 1, 0, none⟩), .pointer (some ⟨qw6.heap.size, 0, none⟩), .int .i64 room, .bool true, .bool false, .bool false, .int .i64 now, .bool true, .bool false, .bool false, .bool false, .agg (sgCells s), av, .iface 82 (.pointer (some ⟨w.heap.size + 1 + 1 + 1, 0, none⟩)), .bool false, .bool false, undef, undef, .int .u32 i, .int .i64 room, .int .i64 now, .agg (cnCells (startC 1 i room now 0)), undef, undef, undef, undef, undef, undef, undef], defers := [] }) (by kernel_rfl) ?_
        go_upto_region 5 with (fail)
        refine wp_region_lit ?_
        refine step_val (w' := qw11) rfl (.pointer (some ⟨qw6.heap.size, 0, none⟩)) (by kernel_rfl) ?_
        refine wpList_frame (a' := { tmps := #[.agg (sgCells s), .int .u32 i, .int .i64 room, .int .i64 now, .pointer (some ⟨w.heap.size, 0, none⟩), undef, undef, undef, .pointer (some ⟨w.heap.size + 1, 0, none⟩), .pointer (some ⟨w.heap.size + 1 + 1, 0, none⟩), .bool false, .pointer (some ⟨w.heap.size + 1 + 1 + 1, 0, none⟩), .pointer (some ⟨qw6.heap.size, 0, none⟩), .int .i64 room, .bool true, .bool false, .bool false, .int .i64 now, .bool true, .bool false, .bool false, .bool false, .agg (sgCells s), av, .iface 82 (.pointer (some ⟨w.heap.size + 1 + 1 + 1, 0, none⟩)), .bool false, .bool false, undef, undef, .int .u32 i, .int .i64 room, .int .i64 now, .agg (cnCells (startC 1 i room now 0)), .pointer (some ⟨qw6.heap.size, 0, none⟩), undef, undef, undef, undef, undef, undef], defers := [] }) (by kernel_rfl) ?_
        refine store_cell (cs' := cnCells { (startC 1 i room now 0) with st := 2 }) qB13 rfl _ _ _ rfl 0 rfl (.int .i64 2) rfl rfl (by kernel_rfl) (by rw [cn_size]; decide) rfl ?_
        intro qw14 qt15 qB16
        clear qB13
        replace S := S.touch qt15 (by omega)
        replace Z := Z.touch qt15 (by omega)
        replace Y := Y.touch qt15 (by omega)
        replace qB5 := qB5.touch qt15 (by omega)
        replace E := E.touch qt15 (by omega)
        replace G := since_touch G qt15 (by omega)
        have qt15_s := qt15.size
        refine wpList_frame (a' := { tmps := #[.agg (sgCells s), .int .u32 i, .int .i64 room, .int .i64 now, .pointer (some ⟨w.heap.size, 0, none⟩), undef, undef, undef, .pointer (some ⟨w.heap.size + 1, 0, none⟩), .pointer (some ⟨w.heap.size + 1 + 1, 0, none⟩), .bool false, .pointer (some ⟨w.heap.size + 1 + 1 + 1, 0, none⟩), .pointer (some ⟨qw6.heap.size, 0, none⟩), .int .i64 room, .bool true, .bool false, .bool false, .int .i64 now, .bool true, .bool false, .bool false, .bool false, .agg (sgCells s), av, .iface 82 (.pointer (some ⟨w.heap.size + 1 + 1 + 1, 0, none⟩)), .bool false, .bool false, undef, undef, .int .u32 i, .int .i64 room, .int .i64 now, .agg (cnCells (startC 1 i room now 0)), .pointer (some ⟨qw6.heap.size, 0, none⟩), undef, undef, undef, undef, undef, undef], defers := [] }) (by kernel_rfl) ?_
        go_upto_region 6 with (fail)
        refine wp_region_lit ?_
        refine load_big seg_big rfl S rfl _ rfl rfl ?_
        refine call_step rfl 52 #[.pointer (some ⟨qw6.heap.size, 0, none⟩), .agg (sgCells s)] (by kernel_rfl) (implMeet _ _ s _ qB16) ?_
        rintro _ qw17 ⟨rfl, qt18, qB19⟩
        refine ⟨_, rfl, ?_⟩
        clear qB16
        replace S := S.touch qt18 (by omega)
        replace Z := Z.touch qt18 (by omega)
        replace Y := Y.touch qt18 (by omega)
        replace qB5 := qB5.touch qt18 (by omega)
        replace E := E.touch qt18 (by omega)
        replace G := since_touch G qt18 (by omega)
        have qt18_s := qt18.size
        refine wpList_frame (a' := { tmps := #[.agg (sgCells s), .int .u32 i, .int .i64 room, .int .i64 now, .pointer (some ⟨w.heap.size, 0, none⟩), undef, undef, undef, .pointer (some ⟨w.heap.size + 1, 0, none⟩), .pointer (some ⟨w.heap.size + 1 + 1, 0, none⟩), .bool false, .pointer (some ⟨w.heap.size + 1 + 1 + 1, 0, none⟩), .pointer (some ⟨qw6.heap.size, 0, none⟩), .int .i64 room, .bool true, .bool false, .bool false, .int .i64 now, .bool true, .bool false, .bool false, .bool false, .agg (sgCells s), av, .iface 82 (.pointer (some ⟨w.heap.size + 1 + 1 + 1, 0, none⟩)), .bool false, .bool false, undef, undef, .int .u32 i, .int .i64 room, .int .i64 now, .agg (cnCells (startC 1 i room now 0)), .pointer (some ⟨qw6.heap.size, 0, none⟩), .agg (sgCells s), .tuple #[], undef, undef, undef, undef], defers := [] }) (by kernel_rfl) ?_
        go_upto_region 7 with (fail)
        refine wp_region_lit ?_
        refine step_val (w' := qw17) rfl (.pointer (some ⟨qw6.heap.size, 7, none⟩)) (by kernel_rfl) ?_
        refine wpList_frame (a' := { tmps := #[.agg (sgCells s), .int .u32 i, .int .i64 room, .int .i64 now, .pointer (some ⟨w.heap.size, 0, none⟩), undef, undef, undef, .pointer (some ⟨w.heap.size + 1, 0, none⟩), .pointer (some ⟨w.heap.size + 1 + 1, 0, none⟩), .bool false, .pointer (some ⟨w.heap.size + 1 + 1 + 1, 0, none⟩), .pointer (some ⟨qw6.heap.size, 0, none⟩), .int .i64 room, .bool true, .bool false, .bool false, .int .i64 now, .bool true, .bool false, .bool false, .bool false, .agg (sgCells s), av, .iface 82 (.pointer (some ⟨w.heap.size + 1 + 1 + 1, 0, none⟩)), .bool false, .bool false, undef, undef, .int .u32 i, .int .i64 room, .int .i64 now, .agg (cnCells (startC 1 i room now 0)), .pointer (some ⟨qw6.heap.size, 0, none⟩), .agg (sgCells s), .tuple #[], .pointer (some ⟨qw6.heap.size, 7, none⟩), undef, undef, undef], defers := [] }) (by kernel_rfl) ?_
        refine store_cell (cs' := cnCells { (metC { startC 1 i room now 0 with st := 2 } s) with wak := 0 }) qB19 rfl _ _ _ rfl 7 rfl (.int .u32 0) rfl rfl (by kernel_rfl) (by rw [cn_size]; decide) rfl ?_
        intro qw20 qt21 qB22
        clear qB19
        replace S := S.touch qt21 (by omega)
        replace Z := Z.touch qt21 (by omega)
        replace Y := Y.touch qt21 (by omega)
        replace qB5 := qB5.touch qt21 (by omega)
        replace E := E.touch qt21 (by omega)
        replace G := since_touch G qt21 (by omega)
        have qt21_s := qt21.size
        refine wpList_frame (a' := { tmps := #[.agg (sgCells s), .int .u32 i, .int .i64 room, .int .i64 now, .pointer (some ⟨w.heap.size, 0, none⟩), undef, undef, undef, .pointer (some ⟨w.heap.size + 1, 0, none⟩), .pointer (some ⟨w.heap.size + 1 + 1, 0, none⟩), .bool false, .pointer (some ⟨w.heap.size + 1 + 1 + 1, 0, none⟩), .pointer (some ⟨qw6.heap.size, 0, none⟩), .int .i64 room, .bool true, .bool false, .bool false, .int .i64 now, .bool true, .bool false, .bool false, .bool false, .agg (sgCells s), av, .iface 82 (.pointer (some ⟨w.heap.size + 1 + 1 + 1, 0, none⟩)), .bool false, .bool false, undef, undef, .int .u32 i, .int .i64 room, .int .i64 now, .agg (cnCells (startC 1 i room now 0)), .pointer (some ⟨qw6.heap.size, 0, none⟩), .agg (sgCells s), .tuple #[], .pointer (some ⟨qw6.heap.size, 7, none⟩), undef, undef, undef], defers := [] }) (by kernel_rfl) ?_
        rw [hhc] at qB22
        go_upto_region 8 with (fail)
        generalize synSg (hearC s i room now) [] = SS at hsy e
        generalize hearC s i room now = CC at hsy e qB22 hhc
        clear hhc
        refine wp_region_tail (wb := qw20) 3 (fun i x v => match i with
            | 0 => v = .agg (cnCells CC)
            | 1 => v = .agg (cnCells CC)
            | 2 => v = .agg (sgCells SS)
            | _ => True) (fun v => { tmps := #[.agg (sgCells s), .int .u32 i, .int .i64 room, .int .i64 now, .pointer (some ⟨w.heap.size, 0, none⟩), undef, undef, undef, .pointer (some ⟨w.heap.size + 1, 0, none⟩), .pointer (some ⟨w.heap.size + 1 + 1, 0, none⟩), .bool false, .pointer (some ⟨w.heap.size + 1 + 1 + 1, 0, none⟩), .pointer (some ⟨qw6.heap.size, 0, none⟩), .int .i64 room, .bool true, .bool false, .bool false, .int .i64 now, .bool true, .bool false, .bool false, .bool false, .agg (sgCells s), av, .iface 82 (.pointer (some ⟨w.heap.size + 1 + 1 + 1, 0, none⟩)), .bool false, .bool false, undef, undef, .int .u32 i, .int .i64 room, .int .i64 now, .agg (cnCells (startC 1 i room now 0)), .pointer (some ⟨qw6.heap.size, 0, none⟩), .agg (sgCells s), .tuple #[], .pointer (some ⟨qw6.heap.size, 7, none⟩), v 0, v 1, v 2], defers := [] }) (by kernel_rfl) (by kernel_rfl) (by kernel_rfl) (Since.refl _) ?_ (fun vals => by kernel_rfl) ?_ ?_
        case refine_1 =>
          intro i x x' v h1 h2
          match i, h2 with
          | 0, h2 | 1, h2 | 2, h2 => exact h2
          | n + 3, _ => trivial
        case refine_2 =>
          repeat (first | exact eachDoes_nil | refine eachDoes_cons ?_ ?_)
          all_goals intro vals x hx hv
          all_goals simp [Region.binds] at hv
          · simp [does, doesUpon, go_sem, hv]
            refine (hsy x).mono ?_
            rintro _ x' ⟨rfl, h1⟩
            simp [h1]
          · exact does_load cn_big (cn_size CC) (qB22.since hx) _ rfl rfl ⟨Since.refl _, rfl⟩
          · exact does_load cn_big (cn_size CC) (qB22.since hx) _ rfl rfl ⟨Since.refl _, rfl⟩
        case refine_3 =>
          intro vals x hx hv
          have h0 : vals 0 = _ := hv 0 (by decide)
          have h2 : vals 2 = _ := hv 2 (by decide)
          clear hv
          simp only [h0, h2, List.drop]
          replace Z := Z.since hx
          replace Y := Y.since hx
          replace G := G.trans hx
          refine store_cn Z rfl _ _ rfl rfl rfl ?_
          intro x3 t3 Z3
          replace Y := Y.touch t3 (by omega)
          replace G := since_touch G t3 (by omega)
          refine store_big seg_big rfl rfl (seg_one _ _ _ _ _ _ _ _) Y rfl _ _ rfl rfl rfl ?_
          intro x4 t4 Y4
          replace Z3 := Z3.touch t4 (by omega)
          replace G := since_touch G t4 (by omega)
          go_wp2_with (fail)
          exact bodyPost_ret (v := .tuple #[.agg (cnCells CC), .agg (sgCells SS), .bool true]) (results_cn3 (t := 8) (u := 9) (v := 10) rfl _ rfl rfl Z3 Y4) rfl ⟨by rw [e.out]; rfl, G⟩
end Go.Proofs.YtjilpicpfddbfabDoor
