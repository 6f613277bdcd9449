/-
  What is left to be sent, a segment that went out, a confirmation: as spec makes them.
-/
import Derived.Test.YtfenlfijfjcdbaaGreatM7
import Derived.Test.YtfenlfijfjcdbaaGreatCopy11
import Derived.Test.YtfenlfijfjcdbaaGreatM16
import Derived.Test.YtfenlfijfjcdbaaGreatM23
import Derived.Test.YtfenlfijfjcdbaaGreatM8
import Derived.Deep.DeepCutAuto
namespace Go.Proofs.YtfenlfijfjcdbaaGreat
open Go.ChangeShapes Go.WideShapes Go.ChangeAt Go.RowKit
set_option linter.unusedVariables false
set_option maxRecDepth 10000

def behindC (c : Cn) : Int := (c.oF + (c.oD.size : Int)) % 4294967296

def leftC (c : Cn) : Int := distI c.nxt (behindC c)

theorem isWord_mod (x : Int) : IsWord (x % 4294967296) := ⟨by omega, by omega⟩

set_option maxRecDepth 20000 in
set_option maxHeartbeats 4000000 in
theorem specLeft (c : Cn) (hn : IsWord c.nxt) (hod : c.oD.size ≤ 1048576) (w : World) :
    Calls Tryz.prog 20 #[.agg (cnCells c)] w fun e w' => e = .returned (.int .i64 (leftC c)) ∧ Since w w' := by
  have B := Blk.new w (cnCells c) 42
  have G := (Since.refl w).alloc (.cells (cnCells c) 42)
  have hdd := fun wx => specDist c.nxt ((c.oF + (c.oD.size : Int) % 4294967296) % 4294967296) _ hn (isWord_mod _) (distI_is _ _) wx
  have e2 : distI c.nxt ((c.oF + (c.oD.size : Int) % 4294967296) % 4294967296) = leftC c := by
    unfold leftC behindC
    congr 1
    omega
  rw [e2] at hdd
  clear e2
  generalize leftC c = dd at hdd ⊢
  go_enter Tryz.func20, Tryz.ntmps20
  go_upto_region 1 with (fail)
  generalize w.alloc (.cells (cnCells c) 42) = w1 at B G ⊢
  refine vR ?_
  refine vV (.pointer (some ⟨w.heap.size, 3, none⟩)) ?_
  refine vD (.int .u32 c.nxt) (B.cell 3) ?_
  refine vV (.pointer (some ⟨w.heap.size, 8, none⟩)) ?_
  refine vV (.pointer (some ⟨w.heap.size, 8, none⟩)) ?_
  refine vD (.int .u32 c.oF) (B.cell 8) ?_
  refine vV (.pointer (some ⟨w.heap.size, 8, none⟩)) ?_
  refine vV (.pointer (some ⟨w.heap.size, 9, none⟩)) ?_
  refine vD (.string c.oD) (B.cell 9) ?_
  refine vV (.int .i64 (c.oD.size : Int)) ?_
  refine vV (.int .u32 ((c.oD.size : Int) % 4294967296)) ?_
  refine vV (.int .u32 ((c.oF + (c.oD.size : Int) % 4294967296) % 4294967296)) ?_
  refine vC (hdd _) ?_
  rintro _ _ ⟨rfl, rfl⟩
  refine ⟨_, rfl, ?_⟩
  refine vV (.int .i64 dd) ?_
  refine vE #[.agg (cnCells c),.pointer (some ⟨w.heap.size, 0, none⟩),.int .i64 dd,.pointer (some ⟨w.heap.size, 3, none⟩),.int .u32 c.nxt,.pointer (some ⟨w.heap.size, 8, none⟩),.pointer (some ⟨w.heap.size, 8, none⟩),.int .u32 c.oF,.pointer (some ⟨w.heap.size, 8, none⟩),.pointer (some ⟨w.heap.size, 9, none⟩),.string c.oD,.int .i64 (c.oD.size : Int),.int .u32 ((c.oD.size : Int) % 4294967296),.int .u32 ((c.oF + (c.oD.size : Int) % 4294967296) % 4294967296),.int .i64 dd] ?_
  go_wp2_with (fail)
  go_ret
  exact ⟨rfl, G⟩

def sendsB (st : Int) : Bool := decide (st = 3 ∨ st = 4 ∨ st = 6 ∨ st = 7 ∨ st = 8)

theorem specSends (st : Int) (w : World) :
    Calls Tryz.prog 54 #[.int .i64 st] w fun e w' => e = .returned (.bool (sendsB st)) ∧ w = w' := by
  unfold sendsB
  by_cases h : st = 3 ∨ st = 4 ∨ st = 6 ∨ st = 7 ∨ st = 8
  · rw [decide_eq_true h]
    rcases h with rfl | rfl | rfl | rfl | rfl
    all_goals go_enter Tryz.func54, Tryz.ntmps54
    all_goals go_wp2
    all_goals go_ret
    all_goals exact ⟨rfl, rfl⟩
  · rw [decide_eq_false h]
    have m3 : (st == 3) = false := by simp; omega
    have m4 : (st == 4) = false := by simp; omega
    have m6 : (st == 6) = false := by simp; omega
    have m7 : (st == 7) = false := by simp; omega
    have m8 : (st == 8) = false := by simp; omega
    clear h
    go_enter Tryz.func54, Tryz.ntmps54
    go_wp2
    go_ret
    exact ⟨rfl, rfl⟩

def ackSg (c : Cn) (ps : List (Int × ByteArray)) : Sg := ⟨0, 0, c.mx, c.iN, 16, inRoomN c.iN c.iD c.iR ps, 0, ByteArray.empty⟩

set_option maxRecDepth 20000 in
set_option maxHeartbeats 8000000 in
theorem specAckSg (c : Cn) (ps : List (Int × ByteArray)) (gd : Good c.iN c.iD c.iR c.pn ps) (w : World) (R : Rd shP w c.pa c.pn ps) :
    Calls Tryz.prog 55 #[.agg (cnCells c)] w fun e w' => e = .returned (.agg (sgCells (ackSg c ps))) ∧ Since w w' := by
  have hr := fun wx Rx => specInRoom c.iN c.iD c.iR c.pa c.pn c.pc ps gd wx Rx
  unfold inVal at hr
  unfold ackSg
  generalize inRoomN c.iN c.iD c.iR ps = rm at hr ⊢
  go_enter Tryz.func55, Tryz.ntmps55
  go_upto_region 1 with (fail)
  have A := (Blk.new w (cnCells c) 42).since ((Since.refl _).alloc (.cells #[.int .i64 0, .int .i64 0, .int .u32 0, .int .u32 0, .int .i64 0, .int .i64 0, .int .i64 0, .string ⟨#[]⟩] 61))
  have Z := Blk.new (w.alloc (.cells (cnCells c) 42)) #[.int .i64 0, .int .i64 0, .int .u32 0, .int .u32 0, .int .i64 0, .int .i64 0, .int .i64 0, .string ⟨#[]⟩] 61
  rw [World.size_alloc] at Z
  have G := ((Since.refl w).alloc (.cells (cnCells c) 42)).alloc (.cells #[.int .i64 0, .int .i64 0, .int .u32 0, .int .u32 0, .int .i64 0, .int .i64 0, .int .i64 0, .string ⟨#[]⟩] 61)
  replace R := R.since G
  generalize (w.alloc (.cells (cnCells c) 42)).alloc (.cells #[.int .i64 0, .int .i64 0, .int .u32 0, .int .u32 0, .int .i64 0, .int .i64 0, .int .i64 0, .string ⟨#[]⟩] 61) = x0 at A Z G R ⊢
  have hZ := Z.lt
  refine wp_region_tail (wb := x0) 9 (fun i x v => match i with
      | 0 => v = .pointer (some ⟨w.heap.size, 4, none⟩)
      | 1 => v = .int .u32 c.mx
      | 2 => v = .pointer (some ⟨w.heap.size, 11, none⟩)
      | 3 => v = .pointer (some ⟨w.heap.size, 11, none⟩)
      | 4 => v = .int .u32 c.iN
      | 5 => v = .pointer (some ⟨w.heap.size, 11, none⟩)
      | 6 => v = .agg #[.int .u32 c.iN, .string c.iD, .slice c.pa c.pn c.pc, .int .i64 c.iR]
      | 7 => v = .int .i64 rm
      | 8 => v = .agg #[.int .i64 0, .int .i64 0, .int .u32 c.mx, .int .u32 c.iN, .int .i64 16, .int .i64 rm, .int .i64 0, .string ⟨#[]⟩]
      | _ => True) (fun v => { tmps := #[.agg (cnCells c), .pointer (some ⟨w.heap.size, 0, none⟩), .pointer (some ⟨w.heap.size + 1, 0, none⟩), v 0, v 1, v 2, v 3, v 4, v 5, v 6, v 7, v 8], defers := [] }) (by kernel_rfl) (by kernel_rfl) (by kernel_rfl) (Since.refl _) ?_ (fun vals => by kernel_rfl) ?_ ?_
  case refine_1 =>
    intro j x x' v h1 h2
    match j, h2 with
    | 0, h2 | 1, h2 | 2, h2 | 3, h2 | 4, h2 | 5, h2 | 6, h2 | 7, h2 | 8, h2 => exact h2
    | n + 9, _ => trivial
  case refine_2 =>
    repeat (first | exact eachDoes_nil | refine eachDoes_cons ?_ ?_)
    all_goals intro vals x hx hv
    all_goals simp [Region.binds] at hv
    · simp [does, doesUpon, go_sem, hv, Since.refl]
    · simp [does, doesUpon, go_sem, hv]
      refine (hr _ (R.since hx)).mono ?_
      rintro _ x' ⟨rfl, h1⟩
      simp [h1]
    · exact does_part_load (A.since hx) pIn_big _ rfl 11 hv [.int .u32 c.iN, .string c.iD, .slice c.pa c.pn c.pc, .int .i64 c.iR] rfl (fun j v hj => by match j, hj with | 0, h => exact h | 1, h => exact h | 2, h => exact h | 3, h => exact h | n + 4, h => exact absurd h (by simp)) ⟨Since.refl _, rfl⟩
    · simp [does, doesUpon, go_sem, Since.refl]
    · have fl0 : x.cell? ⟨w.heap.size, 11, none⟩ = some (.int .u32 c.iN) := (A.since hx).cell 11
      simp [does, doesUpon, go_sem, hv, fl0, Since.refl]
    · simp [does, doesUpon, go_sem, hv, Since.refl]
    · simp [does, doesUpon, go_sem, Since.refl]
    · have fl0 : x.cell? ⟨w.heap.size, 4, none⟩ = some (.int .u32 c.mx) := (A.since hx).cell 4
      simp [does, doesUpon, go_sem, hv, fl0, Since.refl]
    · simp [does, doesUpon, go_sem, Since.refl]
  case refine_3 =>
    intro qv3 qw1 qh2 hv
    have hv0 : qv3 0 = _ := hv 0 (by decide)
    have hv1 : qv3 1 = _ := hv 1 (by decide)
    have hv2 : qv3 2 = _ := hv 2 (by decide)
    have hv3 : qv3 3 = _ := hv 3 (by decide)
    have hv4 : qv3 4 = _ := hv 4 (by decide)
    have hv5 : qv3 5 = _ := hv 5 (by decide)
    have hv6 : qv3 6 = _ := hv 6 (by decide)
    have hv7 : qv3 7 = _ := hv 7 (by decide)
    have hv8 : qv3 8 = _ := hv 8 (by decide)
    clear hv
    simp only [hv0, hv1, hv2, hv3, hv4, hv5, hv6, hv7, hv8, List.drop]
    clear hv0 hv1 hv2 hv3 hv4 hv5 hv6 hv7 hv8
    replace A := A.since qh2
    replace Z := Z.since qh2
    replace G := G.trans qh2
    have qh2_s := qh2.size
    refine VL.out ?_
    refine sB #[.int .i64 0, .int .i64 0, .int .u32 c.mx, .int .u32 c.iN, .int .i64 16, .int .i64 rm, .int .i64 0, .string ⟨#[]⟩] seg_big Z rfl rfl (seg_one _ _ _ _ _ _ _ _) ?_
    intro qw4 qt5 qB6
    clear Z
    replace A := A.touch qt5 (by omega)
    replace G := since_touch G qt5 (by omega)
    have qt5_s := qt5.size
    refine vE #[.agg (cnCells c),.pointer (some ⟨w.heap.size, 0, none⟩),.pointer (some ⟨w.heap.size + 1, 0, none⟩),.pointer (some ⟨w.heap.size, 4, none⟩),.int .u32 c.mx,.pointer (some ⟨w.heap.size, 11, none⟩),.pointer (some ⟨w.heap.size, 11, none⟩),.int .u32 c.iN,.pointer (some ⟨w.heap.size, 11, none⟩),.agg #[.int .u32 c.iN, .string c.iD, .slice c.pa c.pn c.pc, .int .i64 c.iR],.int .i64 rm,.agg #[.int .i64 0, .int .i64 0, .int .u32 c.mx, .int .u32 c.iN, .int .i64 16, .int .i64 rm, .int .i64 0, .string ⟨#[]⟩]] ?_
    go_wp2_with (fail)
    exact bodyPost_ret (results_big seg_big rfl rfl _ rfl qB6) rfl ⟨rfl, G⟩

theorem wait_in11 (a : Bool) (s v d : Int) : 2 ≤ waitOf a s v d ∧ waitOf a s v d ≤ 600 := by
  unfold waitOf
  split
  · rename_i hk
    have hb := ok_bounds hk
    have h2 : 2 ≤ baseOf a s v := by unfold baseOf; split <;> omega
    have h3 : baseOf a s v ≤ 1000000 := by unfold baseOf; split <;> omega
    generalize baseOf a s v = p at h2 h3
    have hd : d = 0 ∨ d = 1 ∨ d = 2 ∨ d = 3 ∨ d = 4 ∨ d = 5 ∨ d = 6 ∨ d = 7 ∨ d = 8 := by omega
    rcases hd with rfl | rfl | rfl | rfl | rfl | rfl | rfl | rfl | rfl <;> simp <;> omega
  · omega

def nxtN (c : Cn) (n : Int) : Int := (c.nxt + n % 4294967296) % 4294967296

def mxN (c : Cn) (n : Int) : Int := if 0 < distI c.mx (nxtN c n) then nxtN c n else c.mx

def wentC (c : Cn) (n now : Int) : Cn := { c with nxt := nxtN c n, mx := mxN c n, agn := if c.agn = 0 then now + waitOf c.rA c.rS c.rV c.rD else c.agn, owe := false }

set_option maxRecDepth 20000 in
set_option maxHeartbeats 8000000 in
theorem specWent (c : Cn) (n now : Int) (hm : IsWord c.mx) (h0 : 0 ≤ now) (h1 : now ≤ 1000000000) (w : World) :
    Calls Tryz.prog 57 #[.agg (cnCells c), .int .i64 n, .int .i64 now] w fun e w' => e = .returned (.agg (cnCells (wentC c n now))) ∧ Since w w' := by
  have hx := fun wx => specMax c.mx (nxtN c n) _ hm (isWord_mod _) (distI_is _ _) wx
  have hwt := fun wx => specWait c.rA c.rS c.rV c.rD wx
  have hb := wait_in11 c.rA c.rS c.rV c.rD
  obtain ⟨d, hd⟩ : ∃ d, Hid (d = wentC c n now) := ⟨_, rfl⟩
  rw [← hd.out]
  change ∀ wx, Calls Tryz.prog 22 #[.int .u32 c.mx, .int .u32 (nxtN c n)] wx fun e w' => e = .returned (.int .u32 (mxN c n)) ∧ wx = w' at hx
  have hN : Hid ((c.nxt + n % 4294967296) % 4294967296 = nxtN c n) := rfl
  unfold rttVal at hwt
  obtain ⟨wt, hwo⟩ : ∃ wt, Hid (wt = waitOf c.rA c.rS c.rV c.rD) := ⟨_, rfl⟩
  rw [← hwo.out] at hwt hb
  obtain ⟨nx, hnx⟩ : ∃ nx, Hid (nx = nxtN c n) := ⟨_, rfl⟩
  obtain ⟨mx, hmx⟩ : ∃ mx, Hid (mx = mxN c n) := ⟨_, rfl⟩
  rw [← hnx.out, ← hmx.out] at hx
  have hs : IntKind.i64.wrap (now + wt) = now + wt := by rw [IntWalk.i64_left]; exact IntWalk.wrap64_in _ ⟨by omega, by omega⟩
  replace hs : Hid _ := hs
  go_enter Tryz.func57, Tryz.ntmps57
  go_upto_region 1 with (fail)
  rw [cn_zero]
  have G := ((Since.refl w).alloc (.cells (cnCells c) 42)).alloc (.cells (cnCells cnZero) 42)
  have A := (Blk.new w (cnCells c) 42).since ((Since.refl _).alloc (.cells (cnCells cnZero) 42))
  have Z := Blk.new (w.alloc (.cells (cnCells c) 42)) (cnCells cnZero) 42
  rw [World.size_alloc] at Z
  generalize (w.alloc (.cells (cnCells c) 42)).alloc (.cells (cnCells cnZero) 42) = x0 at A Z G ⊢
  have hZ := Z.lt
  clear hb
  refine vR ?_
  refine vV (.pointer (some ⟨w.heap.size, 3, none⟩)) ?_
  refine vD (.int .u32 c.nxt) (A.cell 3) ?_
  refine vV (.int .i64 n) ?_
  refine vV (.int .u32 (n % 4294967296)) ?_
  refine vV (.int .u32 nx) ?_ (hrun := by rw [hnx.out]; kernel_rfl)
  refine vV (.pointer (some ⟨w.heap.size, 3, none⟩)) ?_
  refine sC (cnCells { c with nxt := nx }) A 3 (.int .u32 nx) (cn_size _) ?_
  intro qw1 qt2 qB3
  clear A
  replace Z := Z.touch qt2 (by omega)
  replace G := since_touch G qt2 (by omega)
  have qt2_s := qt2.size
  refine vE #[.agg (cnCells c),.int .i64 n,.int .i64 now,.pointer (some ⟨w.heap.size, 0, none⟩),U,U,.pointer (some ⟨w.heap.size + 1, 0, none⟩),.pointer (some ⟨w.heap.size, 3, none⟩),.int .u32 c.nxt,.int .i64 n,.int .u32 (n % 4294967296),.int .u32 nx,.pointer (some ⟨w.heap.size, 3, none⟩),U,U,U,U,U,U,U,U,U,U,U,U,U,U,U,U,U] ?_
  go_upto_region 2 with (fail)
  refine vR ?_
  refine vV (.pointer (some ⟨w.heap.size, 4, none⟩)) ?_
  refine vD (.int .u32 c.mx) (qB3.cell 4) ?_
  refine vV (.pointer (some ⟨w.heap.size, 3, none⟩)) ?_
  refine vD (.int .u32 nx) (qB3.cell 3) ?_
  refine vC (hx _) ?_
  rintro _ _ ⟨rfl, rfl⟩
  refine ⟨_, rfl, ?_⟩
  refine vV (.pointer (some ⟨w.heap.size, 4, none⟩)) ?_
  refine sC (cnCells { c with nxt := nx, mx := mx }) qB3 4 (.int .u32 mx) (cn_size _) ?_
  intro qw4 qt5 qB6
  clear qB3
  replace Z := Z.touch qt5 (by omega)
  replace G := since_touch G qt5 (by omega)
  have qt5_s := qt5.size
  refine vE #[.agg (cnCells c),.int .i64 n,.int .i64 now,.pointer (some ⟨w.heap.size, 0, none⟩),U,U,.pointer (some ⟨w.heap.size + 1, 0, none⟩),.pointer (some ⟨w.heap.size, 3, none⟩),.int .u32 c.nxt,.int .i64 n,.int .u32 (n % 4294967296),.int .u32 nx,.pointer (some ⟨w.heap.size, 3, none⟩),.pointer (some ⟨w.heap.size, 4, none⟩),.int .u32 c.mx,.pointer (some ⟨w.heap.size, 3, none⟩),.int .u32 nx,.int .u32 mx,.pointer (some ⟨w.heap.size, 4, none⟩),U,U,U,U,U,U,U,U,U,U,U] ?_
  by_cases h : c.agn = 0
  case pos =>
    have ha : (c.agn == 0) = true := by simpa using h
    have f_agn : qw4.cell? ⟨w.heap.size, 31, none⟩ = some (.int .i64 c.agn) := qB6.cell 31
    replace h : Hid _ := h
    go_upto_region 4 with (fail)
    clear f_agn ha
    refine vR ?_
    refine vV (.int .i64 now) ?_
    refine vV (.pointer (some ⟨w.heap.size, 19, none⟩)) ?_
    refine vP pRtt_big qB6 19 [.bool c.rA, .int .i64 c.rS, .int .i64 c.rV, .int .i64 c.rD] ?_
    refine vK (hwt _) ?_
    intro qw7 qg8
    replace qB6 := qB6.since qg8
    replace Z := Z.since qg8
    replace G := G.trans qg8
    have qg8_s := qg8.size
    refine vV (.int .i64 (now + wt)) ?_ (hrun := by rw [← hs.out]; kernel_rfl)
    refine vV (.pointer (some ⟨w.heap.size, 31, none⟩)) ?_
    refine sC (cnCells { c with nxt := nx, mx := mx, agn := (now + wt) }) qB6 31 (.int .i64 (now + wt)) (cn_size _) ?_
    intro qw9 qt10 qB11
    clear qB6
    replace Z := Z.touch qt10 (by omega)
    replace G := since_touch G qt10 (by omega)
    have qt10_s := qt10.size
    refine vE #[.agg (cnCells c),.int .i64 n,.int .i64 now,.pointer (some ⟨w.heap.size, 0, none⟩),U,U,.pointer (some ⟨w.heap.size + 1, 0, none⟩),.pointer (some ⟨w.heap.size, 3, none⟩),.int .u32 c.nxt,.int .i64 n,.int .u32 (n % 4294967296),.int .u32 nx,.pointer (some ⟨w.heap.size, 3, none⟩),.pointer (some ⟨w.heap.size, 4, none⟩),.int .u32 c.mx,.pointer (some ⟨w.heap.size, 3, none⟩),.int .u32 nx,.int .u32 mx,.pointer (some ⟨w.heap.size, 4, none⟩),.pointer (some ⟨w.heap.size, 31, none⟩),.int .i64 c.agn,.bool true,.int .i64 now,.pointer (some ⟨w.heap.size, 19, none⟩),.agg #[.bool c.rA, .int .i64 c.rS, .int .i64 c.rV, .int .i64 c.rD],.int .i64 wt,.int .i64 (now + wt),.pointer (some ⟨w.heap.size, 31, none⟩),U,U] ?_
    go_upto_region 5 with (fail)
    refine vR ?_
    refine vV (.pointer (some ⟨w.heap.size, 36, none⟩)) ?_
    refine sC (cnCells { c with nxt := nx, mx := mx, agn := (now + wt), owe := false }) qB11 36 (.bool false) (cn_size _) ?_
    intro qw12 qt13 qB14
    clear qB11
    replace Z := Z.touch qt13 (by omega)
    replace G := since_touch G qt13 (by omega)
    have qt13_s := qt13.size
    refine vE #[.agg (cnCells c),.int .i64 n,.int .i64 now,.pointer (some ⟨w.heap.size, 0, none⟩),U,U,.pointer (some ⟨w.heap.size + 1, 0, none⟩),.pointer (some ⟨w.heap.size, 3, none⟩),.int .u32 c.nxt,.int .i64 n,.int .u32 (n % 4294967296),.int .u32 nx,.pointer (some ⟨w.heap.size, 3, none⟩),.pointer (some ⟨w.heap.size, 4, none⟩),.int .u32 c.mx,.pointer (some ⟨w.heap.size, 3, none⟩),.int .u32 nx,.int .u32 mx,.pointer (some ⟨w.heap.size, 4, none⟩),.pointer (some ⟨w.heap.size, 31, none⟩),.int .i64 c.agn,.bool true,.int .i64 now,.pointer (some ⟨w.heap.size, 19, none⟩),.agg #[.bool c.rA, .int .i64 c.rS, .int .i64 c.rV, .int .i64 c.rD],.int .i64 wt,.int .i64 (now + wt),.pointer (some ⟨w.heap.size, 31, none⟩),.pointer (some ⟨w.heap.size, 36, none⟩),U] ?_
    go_upto_region 6 with (fail)
    refine vR ?_
    refine vB cn_big qB14 (cn_size _) ?_
    refine sB (cnCells { c with nxt := nx, mx := mx, agn := (now + wt), owe := false }) cn_big Z (cn_size _) (cn_size _) (cn_one _) ?_
    intro qw15 qt16 qB17
    clear Z
    replace qB14 := qB14.touch qt16 (by omega)
    replace G := since_touch G qt16 (by omega)
    have qt16_s := qt16.size
    refine vE #[.agg (cnCells c),.int .i64 n,.int .i64 now,.pointer (some ⟨w.heap.size, 0, none⟩),U,U,.pointer (some ⟨w.heap.size + 1, 0, none⟩),.pointer (some ⟨w.heap.size, 3, none⟩),.int .u32 c.nxt,.int .i64 n,.int .u32 (n % 4294967296),.int .u32 nx,.pointer (some ⟨w.heap.size, 3, none⟩),.pointer (some ⟨w.heap.size, 4, none⟩),.int .u32 c.mx,.pointer (some ⟨w.heap.size, 3, none⟩),.int .u32 nx,.int .u32 mx,.pointer (some ⟨w.heap.size, 4, none⟩),.pointer (some ⟨w.heap.size, 31, none⟩),.int .i64 c.agn,.bool true,.int .i64 now,.pointer (some ⟨w.heap.size, 19, none⟩),.agg #[.bool c.rA, .int .i64 c.rS, .int .i64 c.rV, .int .i64 c.rD],.int .i64 wt,.int .i64 (now + wt),.pointer (some ⟨w.heap.size, 31, none⟩),.pointer (some ⟨w.heap.size, 36, none⟩),.agg (cnCells { c with nxt := nx, mx := mx, agn := (now + wt), owe := false })] ?_
    go_wp2_with (fail)
    refine bodyPost_ret (results_cn (t := 6) rfl _ rfl qB17) rfl ⟨?_, G⟩
    rw [hd.out]
    unfold wentC
    rw [if_pos h.out, hnx.out, hmx.out, hwo.out]
  case neg =>
    have ha : (c.agn == 0) = false := by simpa using h
    have f_agn : qw4.cell? ⟨w.heap.size, 31, none⟩ = some (.int .i64 c.agn) := qB6.cell 31
    replace h : Hid _ := h
    go_upto_region 5 with (fail)
    clear f_agn ha
    refine vR ?_
    refine vV (.pointer (some ⟨w.heap.size, 36, none⟩)) ?_
    refine sC (cnCells { c with nxt := nx, mx := mx, owe := false }) qB6 36 (.bool false) (cn_size _) ?_
    intro qw7 qt8 qB9
    clear qB6
    replace Z := Z.touch qt8 (by omega)
    replace G := since_touch G qt8 (by omega)
    have qt8_s := qt8.size
    refine vE #[.agg (cnCells c),.int .i64 n,.int .i64 now,.pointer (some ⟨w.heap.size, 0, none⟩),U,U,.pointer (some ⟨w.heap.size + 1, 0, none⟩),.pointer (some ⟨w.heap.size, 3, none⟩),.int .u32 c.nxt,.int .i64 n,.int .u32 (n % 4294967296),.int .u32 nx,.pointer (some ⟨w.heap.size, 3, none⟩),.pointer (some ⟨w.heap.size, 4, none⟩),.int .u32 c.mx,.pointer (some ⟨w.heap.size, 3, none⟩),.int .u32 nx,.int .u32 mx,.pointer (some ⟨w.heap.size, 4, none⟩),.pointer (some ⟨w.heap.size, 31, none⟩),.int .i64 c.agn,.bool false,U,U,U,U,U,U,.pointer (some ⟨w.heap.size, 36, none⟩),U] ?_
    go_upto_region 6 with (fail)
    refine vR ?_
    refine vB cn_big qB9 (cn_size _) ?_
    refine sB (cnCells { c with nxt := nx, mx := mx, owe := false }) cn_big Z (cn_size _) (cn_size _) (cn_one _) ?_
    intro qw10 qt11 qB12
    clear Z
    replace qB9 := qB9.touch qt11 (by omega)
    replace G := since_touch G qt11 (by omega)
    have qt11_s := qt11.size
    refine vE #[.agg (cnCells c),.int .i64 n,.int .i64 now,.pointer (some ⟨w.heap.size, 0, none⟩),U,U,.pointer (some ⟨w.heap.size + 1, 0, none⟩),.pointer (some ⟨w.heap.size, 3, none⟩),.int .u32 c.nxt,.int .i64 n,.int .u32 (n % 4294967296),.int .u32 nx,.pointer (some ⟨w.heap.size, 3, none⟩),.pointer (some ⟨w.heap.size, 4, none⟩),.int .u32 c.mx,.pointer (some ⟨w.heap.size, 3, none⟩),.int .u32 nx,.int .u32 mx,.pointer (some ⟨w.heap.size, 4, none⟩),.pointer (some ⟨w.heap.size, 31, none⟩),.int .i64 c.agn,.bool false,U,U,U,U,U,U,.pointer (some ⟨w.heap.size, 36, none⟩),.agg (cnCells { c with nxt := nx, mx := mx, owe := false })] ?_
    go_wp2_with (fail)
    refine bodyPost_ret (results_cn (t := 6) rfl _ rfl qB12) rfl ⟨?_, G⟩
    rw [hd.out]
    unfold wentC
    rw [if_neg h.out, hnx.out, hmx.out]
end Go.Proofs.YtfenlfijfjcdbaaGreat
