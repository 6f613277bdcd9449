/-
  An end that was asked, as spec makes it.
-/
import Derived.Test.YtjilpicpfddbfabDoorConnStart
import Derived.Deep.DeepCutAuto
namespace Go.Proofs.YtjilpicpfddbfabDoor
open Go.ChangeShapes Go.WideShapes Go.ChangeAt Go.RowKit
set_option linter.unusedVariables false
set_option maxRecDepth 10000

/-- An end that was asked. -/
def hearC (s : Sg) (i room now : Int) : Cn := { startC 2 i room now ((s.sq + 1) % 4294967296) with wnd := s.wn, wsq := s.sq }

/-- What ConnHear is to be given. -/
def hearOk (s : Sg) (room now : Int) : Prop := (1 ≤ room ∧ room ≤ 4096) ∧ (0 ≤ now ∧ now ≤ 1000000000) ∧ s.fl = 2 ∧ (0 ≤ s.wn ∧ s.wn ≤ 65535) ∧ s.d = ByteArray.empty

instance (s : Sg) (room now : Int) : Decidable (hearOk s room now) := by unfold hearOk; infer_instance

/-- What ConnHear answers. -/
def hearV (s : Sg) (i room now : Int) : Value := if hearOk s room now then .tuple #[cnVal (hearC s i room now), sgVal (synSg (hearC s i room now) []), .bool true] else .tuple #[cnVal cnZero, sgVal sgZero, .bool false]

set_option maxRecDepth 20000 in
set_option maxHeartbeats 8000000 in
theorem specHear (s : Sg) (i room now : Int) (hi : IsWord i) (hq : IsWord s.sq) (w : World) :
    Calls Tryd.prog 26 #[sgVal s, .int .u32 i, .int .i64 room, .int .i64 now] w fun e w' => e = .returned (hearV s i room now) ∧ Since w w' := by
  have k1 := fun wx => specIn room 1 4096 wx
  have k2 := fun wx => specIn now 0 1000000000 wx
  have k3 := fun wx => specIn s.wn 0 65535 wx
  obtain ⟨V, hV⟩ : ∃ V, Hid (V = hearV s i room now) := ⟨_, rfl⟩
  rw [← hV.out]
  unfold sgVal
  go_enter Tryd.func26, Tryd.ntmps26
  go_upto_region 1 with (fail)
  rw [cn_zero, sg_zero]
  have G := (((Since.refl w).alloc (.cells (sgCells s) 28)).alloc (.cells (cnCells cnZero) 46)).alloc (.cells (sgCells sgZero) 28)
  have S := (Blk.new w (sgCells s) 28).since (((Since.refl _).alloc (.cells (cnCells cnZero) 46)).alloc (.cells (sgCells sgZero) 28))
  have Z := (Blk.new (w.alloc (.cells (sgCells s) 28)) (cnCells cnZero) 46).since ((Since.refl _).alloc (.cells (sgCells sgZero) 28))
  have Y := Blk.new ((w.alloc (.cells (sgCells s) 28)).alloc (.cells (cnCells cnZero) 46)) (sgCells sgZero) 28
  simp only [World.size_alloc] at Z Y
  generalize ((w.alloc (.cells (sgCells s) 28)).alloc (.cells (cnCells cnZero) 46)).alloc (.cells (sgCells sgZero) 28) = x0 at S Z Y G ⊢
  have s_sq : x0.cell? ⟨w.heap.size, 2, none⟩ = some (.int .u32 s.sq) := S.cell 2
  have s_fl : x0.cell? ⟨w.heap.size, 4, none⟩ = some (.int .i64 s.fl) := S.cell 4
  have s_wn : x0.cell? ⟨w.heap.size, 5, none⟩ = some (.int .i64 s.wn) := S.cell 5
  have s_d : x0.cell? ⟨w.heap.size, 7, none⟩ = some (.string s.d) := S.cell 7
  have hy0 := Y.lt
  obtain ⟨q, hqq⟩ : ∃ q, Hid (q = decide (¬ hearOk s room now)) := ⟨_, rfl⟩
  go_cut [35] (fun v wx => v = .bool q ∧ x0 = wx)
  case first =>
    by_cases h1 : 1 ≤ room ∧ room ≤ 4096
    case neg =>
      have e : Hid (q = true) := by
        show q = true
        rw [hqq.out]
        simp [hearOk, h1]
      rw [show decide (1 ≤ room ∧ room ≤ 4096) = false by simp [h1]] at k1
      clear h1
      go_wp2_with (fail)
      refine (k1 _).mono ?_
      rintro _ _ ⟨rfl, rfl⟩
      go_wp2_with (fail)
      go_meet
      case rel => exact ⟨by rw [e.out], rfl⟩
    case pos =>
      rw [show decide (1 ≤ room ∧ room ≤ 4096) = true by simp [h1]] at k1
      go_wp2_with (fail)
      refine (k1 _).mono ?_
      rintro _ _ ⟨rfl, rfl⟩
      by_cases h2 : 0 ≤ now ∧ now ≤ 1000000000
      case neg =>
        have e : Hid (q = true) := by
          show q = true
          rw [hqq.out]
          simp [hearOk, h2]
        rw [show decide (0 ≤ now ∧ now ≤ 1000000000) = false by simp [h2]] at k2
        clear h1 h2
        go_wp2_with (fail)
        refine (k2 _).mono ?_
        rintro _ _ ⟨rfl, rfl⟩
        go_wp2_with (fail)
        go_meet
        case rel => exact ⟨by rw [e.out], rfl⟩
      case pos =>
        rw [show decide (0 ≤ now ∧ now ≤ 1000000000) = true by simp [h2]] at k2
        go_wp2_with (fail)
        refine (k2 _).mono ?_
        rintro _ _ ⟨rfl, rfl⟩
        by_cases h3 : s.fl = 2
        case neg =>
          have e : Hid (q = true) := by
            show q = true
            rw [hqq.out]
            simp [hearOk, h3]
          have h3' : (s.fl != 2) = true := by simpa using h3
          clear h1 h2 h3
          go_wp2_with (fail)
          go_meet
          case rel => exact ⟨by rw [e.out], rfl⟩
        case pos =>
          rw [h3] at s_fl
          by_cases h4 : 0 ≤ s.wn ∧ s.wn ≤ 65535
          case neg =>
            have e : Hid (q = true) := by
              show q = true
              rw [hqq.out]
              simp [hearOk, h4]
            rw [show decide (0 ≤ s.wn ∧ s.wn ≤ 65535) = false by simp [h4]] at k3
            clear h1 h2 h3 h4
            go_wp2_with (fail)
            refine (k3 _).mono ?_
            rintro _ _ ⟨rfl, rfl⟩
            go_wp2_with (fail)
            go_meet
            case rel => exact ⟨by rw [e.out], rfl⟩
          case pos =>
            rw [show decide (0 ≤ s.wn ∧ s.wn ≤ 65535) = true by simp [h4]] at k3
            have h3h : Hid (s.fl = 2) := h3
            clear h3
            go_wp2_with (fail)
            refine (k3 _).mono ?_
            rintro _ _ ⟨rfl, rfl⟩
            by_cases h5 : s.d = ByteArray.empty
            case neg =>
              have e : Hid (q = true) := by
                show q = true
                rw [hqq.out]
                simp [hearOk, h5]
              have h5' := text_empty h5
              clear h1 h2 h4 h5
              go_wp2_with (fail)
              go_meet
              case rel => exact ⟨by rw [e.out], rfl⟩
            case pos =>
              have e : Hid (q = false) := by
                show q = false
                rw [hqq.out]
                simp [hearOk, h1, h2, h3h.out, h4, h5]
              rw [h5] at s_d
              clear h1 h2 h4 h5
              go_wp2_with (fail)
              go_meet
              case rel => exact ⟨by rw [e.out], rfl⟩
  case rest =>
    obtain ⟨rfl, rfl⟩ := hcut
    clear k1 k2 k3 s_d s_fl
    cases q
    · have hok : hearOk s room now := by simpa using hqq.out.symm
      have e : Hid (V = .tuple #[cnVal (hearC s i room now), sgVal (synSg (hearC s i room now) []), .bool true]) := hV.out.trans (if_pos hok)
      obtain ⟨h1, h2, -⟩ := hok
      obtain ⟨nx, hnx⟩ : ∃ nx, Hid (nx = (s.sq + 1) % 4294967296) := ⟨_, rfl⟩
      have hst := fun wx => specStartC 2 i room now nx h2.1 h2.2 wx
      have hsy := fun wx => specSyn (hearC s i room now) [] ⟨⟨by show 0 ≤ (s.sq + 1) % 4294967296; omega, by show (s.sq + 1) % 4294967296 < 4294967296; omega⟩, by show ByteArray.empty.size ≤ 1048576; decide, ⟨by show -9223372036854775808 ≤ room; omega, by show room ≤ 9223372036854775807; omega⟩, by show 0 ≤ 1048576; omega, fun i hi => by cases hi⟩ wx ⟨rfl, Nat.zero_le _, fun i hi => by cases hi⟩
      change ∀ wx, Calls Tryd.prog 46 #[cnVal (hearC s i room now)] wx fun e w' => e = .returned (.agg (sgCells (synSg (hearC s i room now) []))) ∧ Since wx w' at hsy
      clear h1 h2
      generalize synSg (hearC s i room now) [] = S' at hsy e
      obtain ⟨C, hC⟩ : ∃ C, Hid (C = hearC s i room now) := ⟨_, rfl⟩
      rw [← hC.out] at hsy e
      obtain ⟨C0, hC0⟩ : ∃ C, Hid (C = startC 2 i room now nx) := ⟨_, rfl⟩
      rw [← hC0.out] at hst
      unfold cnVal at hst hsy
      go_upto_region 3 with (fail)
      refine wp_region_lit ?_
      refine step_val (w' := x0) rfl (.int .u32 i) (by kernel_rfl) ?_
      refine step_val (w' := x0) rfl (.int .i64 room) (by kernel_rfl) ?_
      refine step_val (w' := x0) rfl (.int .i64 now) (by kernel_rfl) ?_
      refine step_val (w' := x0) rfl (.pointer (some ⟨w.heap.size, 2, none⟩)) (by kernel_rfl) ?_
      refine wpList_frame (a' := { tmps := #[.agg (sgCells s), .int .u32 i, .int .i64 room, .int .i64 now, .pointer (some ⟨w.heap.size, 0, none⟩), undef, undef, undef, .pointer (some ⟨w.heap.size + 1, 0, none⟩), .pointer (some ⟨w.heap.size + 1 + 1, 0, none⟩), .bool false, undef, u12, u13, u14, u15, u16, u17, u18, u19, u20, u21, u22, u23, u24, u25, u26, u27, u28, u29, u30, u31, u32, u33, u34, .bool false, u36, u37, .int .u32 i, .int .i64 room, .int .i64 now, .pointer (some ⟨w.heap.size, 2, none⟩), u42, u43, u44, u45, u46, u47, u48, u49, u50, u51, u52, u53], defers := [] }) (by kernel_rfl) ?_
      refine step_does rfl (R := fun v w' => v = .int .u32 s.sq ∧ x0 = w') (by simp [does, doesUpon, go_sem, s_sq]) ?_
      rintro _ _ ⟨rfl, rfl⟩
      refine step_val (w' := x0) rfl (.int .u32 nx) (by rw [hnx.out]; kernel_rfl) ?_
      refine call_step rfl 45 #[.int .i64 2, .int .u32 i, .int .i64 room, .int .i64 now, .int .u32 nx] (by kernel_rfl) (hst _) ?_
      rintro _ x1 ⟨rfl, g1⟩
      refine ⟨_, rfl, ?_⟩
      have hs1 := g1.size
      have A := Blk.new x1 (cnCells cnZero) 46
      have g1' := (Since.refl x1).alloc (.cells (cnCells cnZero) 46)
      replace S := (S.since g1).since g1'
      replace Z := (Z.since g1).since g1'
      replace Y := (Y.since g1).since g1'
      replace G := (G.trans g1).trans g1'
      refine step_val (w' := x1.alloc (.cells (cnCells cnZero) 46)) rfl (.pointer (some ⟨x1.heap.size, 0, none⟩)) (by kernel_rfl) ?_
      refine wpList_frame (a' := { tmps := #[.agg (sgCells s), .int .u32 i, .int .i64 room, .int .i64 now, .pointer (some ⟨w.heap.size, 0, none⟩), undef, undef, undef, .pointer (some ⟨w.heap.size + 1, 0, none⟩), .pointer (some ⟨w.heap.size + 1 + 1, 0, none⟩), .bool false, .pointer (some ⟨x1.heap.size, 0, none⟩), u12, u13, u14, u15, u16, u17, u18, u19, u20, u21, u22, u23, u24, u25, u26, u27, u28, u29, u30, u31, u32, u33, u34, .bool false, u36, u37, .int .u32 i, .int .i64 room, .int .i64 now, .pointer (some ⟨w.heap.size, 2, none⟩), .int .u32 s.sq, .int .u32 nx, .agg (cnCells C0), u45, u46, u47, u48, u49, u50, u51, u52, u53], defers := [] }) (by kernel_rfl) ?_
      refine store_cn A rfl _ _ rfl rfl rfl ?_
      intro x2 t2 A2
      replace S := S.touch t2 (by omega)
      replace Z := Z.touch t2 (by omega)
      replace Y := Y.touch t2 (by omega)
      replace G := since_touch G t2 (by omega)
      clear A t2 g1 g1' hst s_sq s_wn
      have p_wn : x2.cell? ⟨w.heap.size, 5, none⟩ = some (.int .i64 s.wn) := S.cell 5
      have fh0_wnd : x2.cell? ⟨x1.heap.size, 5, none⟩ = some (.int .i64 C0.wnd) := A2.cell 5
      have zh0 := A2.fz 5
      obtain ⟨yh0, eh0, th0, Bh0⟩ := put_cn (c' := { C0 with wnd := s.wn }) A2 5 (.int .i64 s.wn) (by decide) rfl
      replace S := S.touch th0 (by omega)
      replace Z := Z.touch th0 (by omega)
      replace Y := Y.touch th0 (by omega)
      replace G := since_touch G th0 (by omega)
      have p_sq : yh0.cell? ⟨w.heap.size, 2, none⟩ = some (.int .u32 s.sq) := S.cell 2
      have fh1_wsq : yh0.cell? ⟨x1.heap.size, 6, none⟩ = some (.int .u32 C0.wsq) := Bh0.cell 6
      have zh1 := Bh0.fz 6
      obtain ⟨yh1, eh1, th1, Bh1⟩ := put_cn (c' := { C0 with wnd := s.wn, wsq := s.sq }) Bh0 6 (.int .u32 s.sq) (by decide) rfl
      replace S := S.touch th1 (by omega)
      replace Z := Z.touch th1 (by omega)
      replace Y := Y.touch th1 (by omega)
      replace G := since_touch G th1 (by omega)
      have e6 : ({ C0 with wnd := s.wn, wsq := s.sq } : Cn) = C := by rw [hC.out, hC0.out, hnx.out]; rfl
      rw [e6] at Bh1
      clear e6
      go_upto_region 6 with (fail)
      clear eh0 eh1 A2 Bh0 fh0_wnd fh1_wsq zh0 zh1
      generalize yh1 = x3 at Bh1 S Z Y G ⊢
      refine wp_region_tail (wb := x3) 3 (fun i x v => match i with
          | 0 => v = .agg (cnCells C)
          | 1 => v = .agg (cnCells C)
          | 2 => v = .agg (sgCells S')
          | _ => True) (fun v => { tmps := #[Value.agg (sgCells s), Value.int IntKind.u32 i, Value.int IntKind.i64 room, Value.int IntKind.i64 now, Value.pointer (some ⟨w.heap.size, 0, none⟩), undef, undef, undef, Value.pointer (some ⟨w.heap.size + 1, 0, none⟩), Value.pointer (some ⟨w.heap.size + 1 + 1, 0, none⟩), Value.bool false, Value.pointer (some ⟨x1.heap.size, 0, none⟩), u12, u13, u14, u15, u16, u17, u18, u19, u20, u21, u22, u23, u24, u25, u26, u27, u28, u29, u30, u31, u32, u33, u34, Value.bool false, u36, u37, Value.int IntKind.u32 i, Value.int IntKind.i64 room, Value.int IntKind.i64 now, Value.pointer (some ⟨w.heap.size, 2, none⟩), Value.int IntKind.u32 s.sq, Value.int IntKind.u32 nx, Value.agg (cnCells C0), Value.pointer (some ⟨w.heap.size, 5, none⟩), Value.int IntKind.i64 s.wn, Value.pointer (some ⟨x1.heap.size, 5, none⟩), Value.pointer (some ⟨w.heap.size, 2, none⟩), Value.int IntKind.u32 s.sq, Value.pointer (some ⟨x1.heap.size, 6, none⟩), v 0, v 1, v 2], defers := [] }) (by kernel_rfl) (by kernel_rfl) (by kernel_rfl) (Since.refl _) ?_ (fun vals => by kernel_rfl) ?_ ?_
      case refine_1 =>
        intro i x x' v h1 h2
        match i, h2 with
        | 0, h2 | 1, h2 | 2, h2 => exact h2
        | n + 3, _ => trivial
      case refine_2 =>
        repeat (first | exact eachDoes_nil | refine eachDoes_cons ?_ ?_)
        all_goals intro vals x hx hv
        all_goals simp [Region.binds] at hv
        · simp [does, doesUpon, go_sem, hv]
          refine (hsy x).mono ?_
          rintro _ x' ⟨rfl, h1⟩
          simp [h1]
        · exact does_load cn_big (cn_size C) (Bh1.since hx) _ rfl rfl ⟨Since.refl _, rfl⟩
        · exact does_load cn_big (cn_size C) (Bh1.since hx) _ rfl rfl ⟨Since.refl _, rfl⟩
      case refine_3 =>
        intro vals x hx hv
        have h0 : vals 0 = _ := hv 0 (by decide)
        have h2 : vals 2 = _ := hv 2 (by decide)
        clear hv
        simp only [h0, h2, List.drop]
        replace Z := Z.since hx
        replace Y := Y.since hx
        replace G := G.trans hx
        refine store_cn Z rfl _ _ rfl rfl rfl ?_
        intro x4 t4 Z4
        replace Y := Y.touch t4 (by omega)
        replace G := since_touch G t4 (by omega)
        refine store_big seg_big rfl rfl (seg_one _ _ _ _ _ _ _ _) Y rfl _ _ rfl rfl rfl ?_
        intro x5 t5 Y5
        replace Z4 := Z4.touch t5 (by omega)
        replace G := since_touch G t5 (by omega)
        go_wp2_with (fail)
        refine bodyPost_ret (v := .tuple #[.agg (cnCells C), .agg (sgCells S'), .bool true]) (results_cn3 (t := 8) (u := 9) (v := 10) rfl _ rfl rfl Z4 Y5) rfl ⟨by rw [e.out]; rfl, G⟩
    · have hok : ¬ hearOk s room now := by simpa using hqq.out.symm
      have e : Hid (V = .tuple #[cnVal cnZero, sgVal sgZero, .bool false]) := hV.out.trans (if_neg hok)
      clear hok s_sq s_wn
      go_upto_region 2 with (fail)
      refine wp_region_lit ?_
      refine step_val (w' := x0) rfl (.agg (cnCells cnZero)) (by kernel_rfl) ?_
      refine step_val (w' := x0) rfl (.agg (sgCells sgZero)) (by kernel_rfl) ?_
      refine wpList_frame (a' := { tmps := #[.agg (sgCells s), .int .u32 i, .int .i64 room, .int .i64 now, .pointer (some ⟨w.heap.size, 0, none⟩), undef, undef, undef, .pointer (some ⟨w.heap.size + 1, 0, none⟩), .pointer (some ⟨w.heap.size + 1 + 1, 0, none⟩), .bool false, undef, u12, u13, u14, u15, u16, u17, u18, u19, u20, u21, u22, u23, u24, u25, u26, u27, u28, u29, u30, u31, u32, u33, u34, .bool true, .agg (cnCells cnZero), .agg (sgCells sgZero), u38, u39, u40, u41, u42, u43, u44, u45, u46, u47, u48, u49, u50, u51, u52, u53], defers := [] }) (by kernel_rfl) ?_
      refine store_cn Z rfl _ _ rfl rfl rfl ?_
      intro x3 t3 Z3
      replace Y := Y.touch t3 (by omega)
      replace G := since_touch G t3 (by omega)
      refine store_big seg_big rfl rfl (seg_one _ _ _ _ _ _ _ _) Y rfl _ _ rfl rfl rfl ?_
      intro x4 t4 Y4
      replace Z3 := Z3.touch t4 (by omega)
      replace G := since_touch G t4 (by omega)
      go_wp2_with (fail)
      refine bodyPost_ret (v := .tuple #[.agg (cnCells cnZero), .agg (sgCells sgZero), .bool false]) (results_cn3 (t := 8) (u := 9) (v := 10) rfl _ rfl rfl Z3 Y4) rfl ⟨by rw [e.out]; rfl, G⟩
end Go.Proofs.YtjilpicpfddbfabDoor
