/-
  Proved: at every secret, two addresses, epoch and segment impl.HearCookie answers as spec.HearCookie, where the table of steps holds what the program's text lays (the law FnExactHearCookie returns true, and its arguments and the table read as before); of a segment whose Data has more than 1048576 bytes the law asks nothing.
-/
import Derived.Test.YtjilpicpfddbfabDoorRows
import Derived.Test.YtjilpicpfddbfabDoorCards
import Derived.Test.YtjilpicpfddbfabDoorTie
import Derived.Test.YtjilpicpfddbfabDoorConnNil
import Derived.Test.YtjilpicpfddbfabDoorOpenSeg
import Derived.Test.YtjilpicpfddbfabDoorOp15
import Derived.Test.YtjilpicpfddbfabDoorHr15
import Derived.Test.YtjilpicpfddbfabDoorLow
import Derived.LaidLaws
import Derived.Lib.LaidTab
import Derived.Deep.DeepHandedRow
import Derived.OpenVars
import Derived.WalkKit
import Derived.ProofKit
import Derived.OpenShut
import Derived.ShutString
import Derived.ChangeOld
import Derived.Below
import Derived.Carry
namespace Go.Proofs.YtjilpicpfddbfabDoor.fnExactHearCookie
open Go.ChangeShapes Go.WideShapes Go.ChangeAt Go.RowKit
open Go.ChangeMaps (open_string shut_string)
set_option linter.unusedVariables false

theorem own : ownKnob Tryd.prog.godebug = none := by kernel_rfl
theorem laidOut : laidOutB Tryd.prog = true := by kernel_rfl

theorem hearCk_form (k0 h p j q e : Int) (s : Sg) : ∃ S b, hearCk k0 h p j q e s = .tuple #[.agg (sgCells S), .bool b] := by
  unfold hearCk
  split
  · exact ⟨_, _, rfl⟩
  · exact ⟨_, _, rfl⟩

set_option maxHeartbeats 16000000 in
set_option maxRecDepth 20000 in
theorem walk (b0 : Int) (h1 p1 : Int) (h2 p2 : Int) (b3 : Int) (s4 : Sg) (w : World) (E : LaidM w) (x0 : (Lit.int .u32 b0).wf = true) (x1 : (Lit.int .u32 h1).wf = true) (y1 : (Lit.int .i64 p1).wf = true) (x2 : (Lit.int .u32 h2).wf = true) (y2 : (Lit.int .i64 p2).wf = true) (x3 : (Lit.int .i64 b3).wf = true) (u4 : WfS s4) :
    Calls Tryd.prog 3 #[.int .u32 b0, addrVal h1 p1, addrVal h2 p2, .int .i64 b3, .agg (sgCells s4)] w fun e w' => e = .returned (.bool true) ∧ Below w.heap.size w w' := by
  have hE := E.lt
  have G := Since.refl w
  have hz := fun wx => szSg s4 1048576 (by omega) u4.v_d wx
  have ht := fun wx => toSg s4 wx
  have ta := fun wx => toAddr h1 p1 wx
  have tb := fun wx => toAddr h2 p2 wx
  unfold addrVal at *
  go_enter Tryd.func3, Tryd.ntmps3
  go_upto_region 0 with (fail)
  refine vR ?_
  refine vW (w.alloc (.cells #[.int .u32 h1, .int .i64 p1] 24)) (.pointer (some ⟨w.heap.size, 0, none⟩)) ?_
  have qB2 := Blk.new w #[.int .u32 h1, .int .i64 p1] 24
  have qg3 := (Since.refl w).alloc (.cells #[.int .u32 h1, .int .i64 p1] 24)
  replace E := E.since qg3
  replace G := G.trans qg3
  generalize w.alloc (.cells #[.int .u32 h1, .int .i64 p1] 24) = qw1 at E G qB2 qg3 ⊢
  have qB2_l := qB2.lt
  have qg3_s := qg3.size
  refine vW (qw1.alloc (.cells #[.int .u32 h2, .int .i64 p2] 24)) (.pointer (some ⟨qw1.heap.size, 0, none⟩)) ?_
  have qB5 := Blk.new qw1 #[.int .u32 h2, .int .i64 p2] 24
  have qg6 := (Since.refl qw1).alloc (.cells #[.int .u32 h2, .int .i64 p2] 24)
  replace qB2 := qB2.since qg6
  replace E := E.since qg6
  replace G := G.trans qg6
  generalize qw1.alloc (.cells #[.int .u32 h2, .int .i64 p2] 24) = qw4 at qB2 E G qB5 qg6 ⊢
  have qB5_l := qB5.lt
  have qg6_s := qg6.size
  refine vW (qw4.alloc (.cells (sgCells s4) 26)) (.pointer (some ⟨qw4.heap.size, 0, none⟩)) ?_
  have qB8 := Blk.new qw4 (sgCells s4) 26
  have qg9 := (Since.refl qw4).alloc (.cells (sgCells s4) 26)
  replace qB2 := qB2.since qg9
  replace qB5 := qB5.since qg9
  replace E := E.since qg9
  replace G := G.trans qg9
  generalize qw4.alloc (.cells (sgCells s4) 26) = qw7 at qB2 qB5 E G qB8 qg9 ⊢
  have qB8_l := qB8.lt
  have qg9_s := qg9.size
  refine vV (.bool false) ?_
  refine vE #[.int .u32 b0,.agg #[.int .u32 h1, .int .i64 p1],.agg #[.int .u32 h2, .int .i64 p2],.int .i64 b3,.agg (sgCells s4),U,.pointer (some ⟨w.heap.size, 0, none⟩),.pointer (some ⟨qw1.heap.size, 0, none⟩),U,.pointer (some ⟨qw4.heap.size, 0, none⟩),.bool false,U,U,U,U,U,U,U,U,U,U,U,U,U,U,U,U,U,U,U,U,U,U,U,U,U,U,U,U,U,U,U,U,U,U,U,U,U,U,U,U,U,U,U] ?_
  go_upto_region 2 with (fail)
  by_cases hbig : (s4.d.size : Int) ≤ 1048576
  case neg =>
    rw [show (if (s4.d.size : Int) ≤ 1048576 then (1048576 : Int) - s4.d.size else -1) = -1 from if_neg hbig] at hz
    clear hbig
    refine vR ?_
    refine vB lsg_big qB8 rfl ?_
    refine vV (.int .i64 1048576) ?_
    refine vK (hz _) ?_
    intro nw10 ng11
    replace qB2 := qB2.since ng11
    replace qB5 := qB5.since ng11
    replace qB8 := qB8.since ng11
    replace E := E.since ng11
    replace G := G.trans ng11
    have ng11_s := ng11.size
    refine vV (.int .i64 (-1)) ?_
    refine vE #[.int .u32 b0,.agg #[.int .u32 h1, .int .i64 p1],.agg #[.int .u32 h2, .int .i64 p2],.int .i64 b3,.agg (sgCells s4),U,.pointer (some ⟨w.heap.size, 0, none⟩),.pointer (some ⟨qw1.heap.size, 0, none⟩),U,.pointer (some ⟨qw4.heap.size, 0, none⟩),.bool false,.int .i64 (-1),U,U,U,U,.agg (sgCells s4),.int .i64 1048576,.int .i64 (-1),U,U,U,U,U,U,U,U,U,U,U,U,U,U,U,U,U,U,U,U,U,U,U,U,U,U,U,U,U,U,U,U,U,U,U] ?_
    go_wp2_with (fail)
    go_ret
    exact ⟨rfl, G⟩
  rw [show (if (s4.d.size : Int) ≤ 1048576 then (1048576 : Int) - s4.d.size else -1) = 1048576 - s4.d.size from if_pos hbig] at hz
  have hl0 : 0 ≤ (1048576 : Int) - s4.d.size := by omega
  generalize (1048576 : Int) - s4.d.size = l at hz hl0
  have hl : ¬ l < 0 := by omega
  have hd : s4.d.size ≤ 1048576 := by omega
  clear hbig
  have hs := fun wx => specHearCk b0 h1 p1 h2 p2 b3 s4 wx
  have hi := fun wx L => implHearCk b0 h1 p1 h2 p2 b3 s4 hd wx L
  obtain ⟨S, b, hans⟩ := hearCk_form b0 h1 p1 h2 p2 b3 s4
  rw [hans] at hs hi
  clear hans hd
  unfold addrVal at hs hi
  have hq := fun wx => eqSg S wx
  refine vR ?_
  refine vB lsg_big qB8 rfl ?_
  refine vV (.int .i64 1048576) ?_
  refine vK (hz _) ?_
  intro qw10 qg11
  replace qB2 := qB2.since qg11
  replace qB5 := qB5.since qg11
  replace qB8 := qB8.since qg11
  replace E := E.since qg11
  replace G := G.trans qg11
  have qg11_s := qg11.size
  refine vV (.int .i64 l) ?_
  refine vE #[.int .u32 b0,.agg #[.int .u32 h1, .int .i64 p1],.agg #[.int .u32 h2, .int .i64 p2],.int .i64 b3,.agg (sgCells s4),U,.pointer (some ⟨w.heap.size, 0, none⟩),.pointer (some ⟨qw1.heap.size, 0, none⟩),U,.pointer (some ⟨qw4.heap.size, 0, none⟩),.bool false,.int .i64 l,U,U,U,U,.agg (sgCells s4),.int .i64 1048576,.int .i64 l,U,U,U,U,U,U,U,U,U,U,U,U,U,U,U,U,U,U,U,U,U,U,U,U,U,U,U,U,U,U,U,U,U,U,U] ?_
  go_upto_region 5 with (fail)
  refine wp_region_low (fun x y => x.heap.size ≤ y.heap.size) (fun i x v => match i with
      | 0 => v = .int .u32 b0
      | 1 => v = .agg #[.int .u32 h1, .int .i64 p1]
      | 2 => v = .agg #[.int .u32 h1, .int .i64 p1]
      | 3 => v = .agg #[.int .u32 h2, .int .i64 p2]
      | 4 => v = .agg #[.int .u32 h2, .int .i64 p2]
      | 5 => v = .int .i64 b3
      | 6 => v = .agg (sgCells s4)
      | 7 => v = .agg (sgCells s4)
      | 8 => v = .tuple #[.agg (sgCells S), .bool b]
      | 9 => v = .tuple #[.agg (sgCells S), .bool b]
      | 10 => v = .agg (sgCells S)
      | 11 => v = .bool b
      | 14 => v = .bool b
      | _ => True) (fun f vals x => Blk w.heap.size x #[.int .u32 h1, .int .i64 p1] ∧ Blk qw1.heap.size x #[.int .u32 h2, .int .i64 p2] ∧ Blk qw4.heap.size x (sgCells s4) ∧ LaidM x ∧ qw10.heap.size ≤ x.heap.size ∧ Since w x ∧ (f 13 = true → f 12 = true) ∧ (f 12 = true → ∃ n, vals 12 = .pointer (some ⟨n, 0, none⟩) ∧ qw10.heap.size ≤ n ∧ Blk n x (if f 13 then (sgCells S) else (sgCells sgZero)))) (fun v => { tmps := #[.int .u32 b0, .agg #[.int .u32 h1, .int .i64 p1], .agg #[.int .u32 h2, .int .i64 p2], .int .i64 b3, .agg (sgCells s4), undef, .pointer (some ⟨w.heap.size, 0, none⟩), .pointer (some ⟨qw1.heap.size, 0, none⟩), undef, .pointer (some ⟨qw4.heap.size, 0, none⟩), .bool false, .int .i64 l, v 12, v 14, undef, undef, .agg (sgCells s4), .int .i64 1048576, .int .i64 l, .int .i64 l, .bool false, v 9, v 0, v 1, v 2, v 3, v 4, v 5, v 6, v 7, v 8, v 10, v 11, undef, undef, undef, undef, undef, undef, undef, undef, undef, undef, undef, undef, undef, undef, undef, undef, undef, undef, undef, undef, undef], defers := [] }) (by kernel_rfl) (by kernel_rfl) ?_ ?_ (fun vals => by kernel_rfl) ?_ ?_
  case refine_1 =>
    intro j x y v hl hv
    match j, hv with
    | 0, hv | 1, hv | 2, hv | 3, hv | 4, hv | 5, hv | 6, hv | 7, hv | 8, hv | 9, hv | 10, hv | 11, hv | 14, hv => exact hv
    | 12, hv | 13, hv => trivial
    | n + 15, _ => trivial
  case refine_2 =>
    intro f vals hf
    refine ⟨qB2.since ((Since.refl _).drew), qB5.since ((Since.refl _).drew), qB8.since ((Since.refl _).drew), E.since ((Since.refl _).drew), ((Since.refl _).drew).size, G.trans ((Since.refl _).drew), (fun h => by rw [hf] at h; cases h), (fun h => by rw [hf] at h; cases h)⟩
  case refine_3 =>
    repeat (first | exact eachLow_nil | refine eachLow_cons ?_ ?_)
    all_goals intro f vals x hf hr hK
    all_goals obtain ⟨k0, k1, k2, k3, k4, k5, k6, k7⟩ := hK
    · skip
      have e11 : vals 11 = .bool b := (hr ⟨11, .data⟩ (by simp) rfl).2
      exact does_valT (.bool b) x (by simp only [e11]; kernel_rfl) ⟨Nat.le_refl _, ⟨k0, k1, k2, k3, k4, k5, k6, k7⟩, rfl⟩
    · have fa : f 12 = true := (hr ⟨12, .data⟩ (by simp) rfl).1
      have e10 : vals 10 = .agg (sgCells S) := (hr ⟨10, .data⟩ (by simp) rfl).2
      obtain ⟨n, en, ln, Bn⟩ := k7 fa
      rw [hf] at Bn
      refine does_store seg_big rfl (Raw.of Bn rfl) (seg_one _ _ _ _ _ _ _ _) _ _ rfl en e10 ?_
      intro z t B
      exact ⟨t.size, ⟨k0.touch t (by omega), k1.touch t (by omega), k2.touch t (by omega), k3.touch t (by omega), Nat.le_trans k4 t.size, since_touch k5 t (by omega), fun _ => fa, fun _ => ⟨n, en, ln, B⟩⟩, trivial⟩
    · have h1 := (Since.refl x).alloc (.cells (sgCells sgZero) 28)
      have hq : f 13 = false := by
        cases e : f 13 with
        | false => rfl
        | true => rw [k6 e] at hf; cases hf
      exact does_valT (.pointer (some ⟨x.heap.size, 0, none⟩)) (x.alloc (.cells (sgCells sgZero) 28)) (by kernel_rfl) ⟨h1.size, ⟨k0.since h1, k1.since h1, k2.since h1, k3.since h1, Nat.le_trans k4 h1.size, k5.trans h1, fun _ => rfl, fun _ => ⟨x.heap.size, rfl, k4, by rw [show andDone f 12 13 = f 13 from rfl, hq]; exact Blk.new x (sgCells sgZero) 28⟩⟩, trivial⟩
    · skip
      have e9 : vals 9 = .tuple #[.agg (sgCells S), .bool b] := (hr ⟨9, .data⟩ (by simp) rfl).2
      exact does_valT (.bool b) x (by simp only [e9]; kernel_rfl) ⟨Nat.le_refl _, ⟨k0, k1, k2, k3, k4, k5, k6, k7⟩, rfl⟩
    · skip
      have e9 : vals 9 = .tuple #[.agg (sgCells S), .bool b] := (hr ⟨9, .data⟩ (by simp) rfl).2
      exact does_valT (.agg (sgCells S)) x (by simp only [e9]; kernel_rfl) ⟨Nat.le_refl _, ⟨k0, k1, k2, k3, k4, k5, k6, k7⟩, rfl⟩
    · skip
      have e8 : vals 8 = .tuple #[.agg (sgCells S), .bool b] := (hr ⟨8, .data⟩ (by simp) rfl).2
      exact does_valT (.tuple #[.agg (sgCells S), .bool b]) x (by simp only [e8]; kernel_rfl) ⟨Nat.le_refl _, ⟨k0, k1, k2, k3, k4, k5, k6, k7⟩, rfl⟩
    · skip
      have e0 : vals 0 = .int .u32 b0 := (hr ⟨0, .data⟩ (by simp) rfl).2
      have e2 : vals 2 = .agg #[.int .u32 h1, .int .i64 p1] := (hr ⟨2, .data⟩ (by simp) rfl).2
      have e4 : vals 4 = .agg #[.int .u32 h2, .int .i64 p2] := (hr ⟨4, .data⟩ (by simp) rfl).2
      have e5 : vals 5 = .int .i64 b3 := (hr ⟨5, .data⟩ (by simp) rfl).2
      have e7 : vals 7 = .agg (sgCells s4) := (hr ⟨7, .data⟩ (by simp) rfl).2
      simp [does, doesUpon, go_sem, e0, e2, e4, e5, e7]
      refine (hs _).mono ?_
      rintro _ x' ⟨rfl, h1⟩
      exact ⟨_, rfl, h1.size, ⟨k0.since h1, k1.since h1, k2.since h1, k3.since h1, Nat.le_trans k4 h1.size, k5.trans h1, k6, fun h => by obtain ⟨n, en, ln, Bn⟩ := k7 h; exact ⟨n, en, ln, Bn.since h1⟩⟩, rfl⟩
    · skip
      have e6 : vals 6 = .agg (sgCells s4) := (hr ⟨6, .data⟩ (by simp) rfl).2
      simp [does, doesUpon, go_sem, e6]
      refine (ht _).mono ?_
      rintro _ x' ⟨rfl, h1⟩
      exact ⟨_, rfl, h1.size, ⟨k0.since h1, k1.since h1, k2.since h1, k3.since h1, Nat.le_trans k4 h1.size, k5.trans h1, k6, fun h => by obtain ⟨n, en, ln, Bn⟩ := k7 h; exact ⟨n, en, ln, Bn.since h1⟩⟩, rfl⟩
    · exact does_load lsg_big rfl k2 _ rfl rfl ⟨Nat.le_refl _, ⟨k0, k1, k2, k3, k4, k5, k6, k7⟩, rfl⟩
    · skip
      exact does_valT (.int .i64 b3) x (by kernel_rfl) ⟨Nat.le_refl _, ⟨k0, k1, k2, k3, k4, k5, k6, k7⟩, rfl⟩
    · skip
      have e3 : vals 3 = .agg #[.int .u32 h2, .int .i64 p2] := (hr ⟨3, .data⟩ (by simp) rfl).2
      simp [does, doesUpon, go_sem, e3]
      refine (tb _).mono ?_
      rintro _ x' ⟨rfl, h1⟩
      exact ⟨_, rfl, h1.size, ⟨k0.since h1, k1.since h1, k2.since h1, k3.since h1, Nat.le_trans k4 h1.size, k5.trans h1, k6, fun h => by obtain ⟨n, en, ln, Bn⟩ := k7 h; exact ⟨n, en, ln, Bn.since h1⟩⟩, rfl⟩
    · exact does_load lad_big rfl k1 _ rfl rfl ⟨Nat.le_refl _, ⟨k0, k1, k2, k3, k4, k5, k6, k7⟩, rfl⟩
    · skip
      have e1 : vals 1 = .agg #[.int .u32 h1, .int .i64 p1] := (hr ⟨1, .data⟩ (by simp) rfl).2
      simp [does, doesUpon, go_sem, e1]
      refine (ta _).mono ?_
      rintro _ x' ⟨rfl, h1⟩
      exact ⟨_, rfl, h1.size, ⟨k0.since h1, k1.since h1, k2.since h1, k3.since h1, Nat.le_trans k4 h1.size, k5.trans h1, k6, fun h => by obtain ⟨n, en, ln, Bn⟩ := k7 h; exact ⟨n, en, ln, Bn.since h1⟩⟩, rfl⟩
    · exact does_load lad_big rfl k0 _ rfl rfl ⟨Nat.le_refl _, ⟨k0, k1, k2, k3, k4, k5, k6, k7⟩, rfl⟩
    · skip
      exact does_valT (.int .u32 b0) x (by kernel_rfl) ⟨Nat.le_refl _, ⟨k0, k1, k2, k3, k4, k5, k6, k7⟩, rfl⟩
  intro f qv14 qw13 hK hf hv
  obtain ⟨k0, k1, k2, k3, k4, k5, k6, k7⟩ := hK
  clear qB2 qB5 qB8 E G
  obtain ⟨qn12, hv12, qn12_l, qB15⟩ := k7 (hf 12 (by decide))
  rw [hf 13 (by decide)] at qB15
  replace qB15 : Blk qn12 qw13 (sgCells S) := qB15
  clear k7 k6
  have hv0 : qv14 0 = _ := hv 0 (by decide)
  have hv1 : qv14 1 = _ := hv 1 (by decide)
  have hv2 : qv14 2 = _ := hv 2 (by decide)
  have hv3 : qv14 3 = _ := hv 3 (by decide)
  have hv4 : qv14 4 = _ := hv 4 (by decide)
  have hv5 : qv14 5 = _ := hv 5 (by decide)
  have hv6 : qv14 6 = _ := hv 6 (by decide)
  have hv7 : qv14 7 = _ := hv 7 (by decide)
  have hv8 : qv14 8 = _ := hv 8 (by decide)
  have hv9 : qv14 9 = _ := hv 9 (by decide)
  have hv10 : qv14 10 = _ := hv 10 (by decide)
  have hv11 : qv14 11 = _ := hv 11 (by decide)
  have hv14 : qv14 14 = _ := hv 14 (by decide)
  clear hv hf
  simp only [hv0, hv1, hv2, hv3, hv4, hv5, hv6, hv7, hv8, hv9, hv10, hv11, hv14, hv12]
  clear hv0 hv1 hv2 hv3 hv4 hv5 hv6 hv7 hv8 hv9 hv10 hv11 hv14 hv12
  have qB2 := k0
  clear k0
  have qB5 := k1
  clear k1
  have qB8 := k2
  clear k2
  have E := k3
  clear k3
  have G := k5
  clear k5
  have qw13_l := k4
  clear k4
  have qB15_l := qB15.lt
  go_upto_region 6 with (fail)
  refine wp_region_low (fun x y => x.heap.size ≤ y.heap.size) (fun i x v => match i with
      | 0 => v = .int .u32 b0
      | 1 => v = .agg #[.int .u32 h1, .int .i64 p1]
      | 2 => v = .agg #[.int .u32 h1, .int .i64 p1]
      | 3 => v = .agg #[.int .u32 h2, .int .i64 p2]
      | 4 => v = .agg #[.int .u32 h2, .int .i64 p2]
      | 5 => v = .int .i64 b3
      | 6 => v = .agg (sgCells s4)
      | 7 => v = .agg (sgCells s4)
      | 8 => v = .tuple #[.agg (sgCells S), .bool b]
      | 9 => v = .tuple #[.agg (sgCells S), .bool b]
      | 10 => v = .agg (sgCells S)
      | 11 => v = .bool b
      | 14 => v = .bool b
      | _ => True) (fun f vals x => Blk w.heap.size x #[.int .u32 h1, .int .i64 p1] ∧ Blk qw1.heap.size x #[.int .u32 h2, .int .i64 p2] ∧ Blk qw4.heap.size x (sgCells s4) ∧ Blk qn12 x (sgCells S) ∧ LaidM x ∧ qw13.heap.size ≤ x.heap.size ∧ Since w x ∧ (f 13 = true → f 12 = true) ∧ (f 12 = true → ∃ n, vals 12 = .pointer (some ⟨n, 0, none⟩) ∧ qw13.heap.size ≤ n ∧ Blk n x (if f 13 then (sgCells S) else (sgCells sgZero)))) (fun v => { tmps := #[.int .u32 b0, .agg #[.int .u32 h1, .int .i64 p1], .agg #[.int .u32 h2, .int .i64 p2], .int .i64 b3, .agg (sgCells s4), undef, .pointer (some ⟨w.heap.size, 0, none⟩), .pointer (some ⟨qw1.heap.size, 0, none⟩), undef, .pointer (some ⟨qw4.heap.size, 0, none⟩), .bool false, .int .i64 l, .pointer (some ⟨qn12, 0, none⟩), .bool b, v 12, v 14, .agg (sgCells s4), .int .i64 1048576, .int .i64 l, .int .i64 l, .bool false, .tuple #[.agg (sgCells S), .bool b], .int .u32 b0, .agg #[.int .u32 h1, .int .i64 p1], .agg #[.int .u32 h1, .int .i64 p1], .agg #[.int .u32 h2, .int .i64 p2], .agg #[.int .u32 h2, .int .i64 p2], .int .i64 b3, .agg (sgCells s4), .agg (sgCells s4), .tuple #[.agg (sgCells S), .bool b], .agg (sgCells S), .bool b, v 9, v 0, v 1, v 2, v 3, v 4, v 5, v 6, v 7, v 8, v 10, v 11, undef, undef, undef, undef, undef, undef, undef, undef, undef], defers := [] }) (by kernel_rfl) (by kernel_rfl) ?_ ?_ (fun vals => by kernel_rfl) ?_ ?_
  case refine_1 =>
    intro j x y v hl hv
    match j, hv with
    | 0, hv | 1, hv | 2, hv | 3, hv | 4, hv | 5, hv | 6, hv | 7, hv | 8, hv | 9, hv | 10, hv | 11, hv | 14, hv => exact hv
    | 12, hv | 13, hv => trivial
    | n + 15, _ => trivial
  case refine_2 =>
    intro f vals hf
    refine ⟨qB2.since ((Since.refl _).drew), qB5.since ((Since.refl _).drew), qB8.since ((Since.refl _).drew), qB15.since ((Since.refl _).drew), E.since ((Since.refl _).drew), ((Since.refl _).drew).size, G.trans ((Since.refl _).drew), (fun h => by rw [hf] at h; cases h), (fun h => by rw [hf] at h; cases h)⟩
  case refine_3 =>
    repeat (first | exact eachLow_nil | refine eachLow_cons ?_ ?_)
    all_goals intro f vals x hf hr hK
    all_goals obtain ⟨k0, k1, k2, k3, k4, k5, k6, k7, k8⟩ := hK
    · skip
      have e11 : vals 11 = .bool b := (hr ⟨11, .data⟩ (by simp) rfl).2
      exact does_valT (.bool b) x (by simp only [e11]; kernel_rfl) ⟨Nat.le_refl _, ⟨k0, k1, k2, k3, k4, k5, k6, k7, k8⟩, rfl⟩
    · have fa : f 12 = true := (hr ⟨12, .data⟩ (by simp) rfl).1
      have e10 : vals 10 = .agg (sgCells S) := (hr ⟨10, .data⟩ (by simp) rfl).2
      obtain ⟨n, en, ln, Bn⟩ := k8 fa
      rw [hf] at Bn
      refine does_store seg_big rfl (Raw.of Bn rfl) (seg_one _ _ _ _ _ _ _ _) _ _ rfl en e10 ?_
      intro z t B
      exact ⟨t.size, ⟨k0.touch t (by omega), k1.touch t (by omega), k2.touch t (by omega), k3.touch t (by omega), k4.touch t (by omega), Nat.le_trans k5 t.size, since_touch k6 t (by omega), fun _ => fa, fun _ => ⟨n, en, ln, B⟩⟩, trivial⟩
    · have h1 := (Since.refl x).alloc (.cells (sgCells sgZero) 28)
      have hq : f 13 = false := by
        cases e : f 13 with
        | false => rfl
        | true => rw [k7 e] at hf; cases hf
      exact does_valT (.pointer (some ⟨x.heap.size, 0, none⟩)) (x.alloc (.cells (sgCells sgZero) 28)) (by kernel_rfl) ⟨h1.size, ⟨k0.since h1, k1.since h1, k2.since h1, k3.since h1, k4.since h1, Nat.le_trans k5 h1.size, k6.trans h1, fun _ => rfl, fun _ => ⟨x.heap.size, rfl, k5, by rw [show andDone f 12 13 = f 13 from rfl, hq]; exact Blk.new x (sgCells sgZero) 28⟩⟩, trivial⟩
    · skip
      have e9 : vals 9 = .tuple #[.agg (sgCells S), .bool b] := (hr ⟨9, .data⟩ (by simp) rfl).2
      exact does_valT (.bool b) x (by simp only [e9]; kernel_rfl) ⟨Nat.le_refl _, ⟨k0, k1, k2, k3, k4, k5, k6, k7, k8⟩, rfl⟩
    · skip
      have e9 : vals 9 = .tuple #[.agg (sgCells S), .bool b] := (hr ⟨9, .data⟩ (by simp) rfl).2
      exact does_valT (.agg (sgCells S)) x (by simp only [e9]; kernel_rfl) ⟨Nat.le_refl _, ⟨k0, k1, k2, k3, k4, k5, k6, k7, k8⟩, rfl⟩
    · skip
      have e8 : vals 8 = .tuple #[.agg (sgCells S), .bool b] := (hr ⟨8, .data⟩ (by simp) rfl).2
      exact does_valT (.tuple #[.agg (sgCells S), .bool b]) x (by simp only [e8]; kernel_rfl) ⟨Nat.le_refl _, ⟨k0, k1, k2, k3, k4, k5, k6, k7, k8⟩, rfl⟩
    · skip
      have e0 : vals 0 = .int .u32 b0 := (hr ⟨0, .data⟩ (by simp) rfl).2
      have e2 : vals 2 = .agg #[.int .u32 h1, .int .i64 p1] := (hr ⟨2, .data⟩ (by simp) rfl).2
      have e4 : vals 4 = .agg #[.int .u32 h2, .int .i64 p2] := (hr ⟨4, .data⟩ (by simp) rfl).2
      have e5 : vals 5 = .int .i64 b3 := (hr ⟨5, .data⟩ (by simp) rfl).2
      have e7 : vals 7 = .agg (sgCells s4) := (hr ⟨7, .data⟩ (by simp) rfl).2
      simp [does, doesUpon, go_sem, e0, e2, e4, e5, e7]
      refine (hi _ k4).mono ?_
      rintro _ x' ⟨rfl, h1⟩
      exact ⟨_, rfl, h1.size, ⟨k0.since h1, k1.since h1, k2.since h1, k3.since h1, k4.since h1, Nat.le_trans k5 h1.size, k6.trans h1, k7, fun h => by obtain ⟨n, en, ln, Bn⟩ := k8 h; exact ⟨n, en, ln, Bn.since h1⟩⟩, rfl⟩
    · skip
      have e6 : vals 6 = .agg (sgCells s4) := (hr ⟨6, .data⟩ (by simp) rfl).2
      simp [does, doesUpon, go_sem, e6]
      refine (ht _).mono ?_
      rintro _ x' ⟨rfl, h1⟩
      exact ⟨_, rfl, h1.size, ⟨k0.since h1, k1.since h1, k2.since h1, k3.since h1, k4.since h1, Nat.le_trans k5 h1.size, k6.trans h1, k7, fun h => by obtain ⟨n, en, ln, Bn⟩ := k8 h; exact ⟨n, en, ln, Bn.since h1⟩⟩, rfl⟩
    · exact does_load lsg_big rfl k2 _ rfl rfl ⟨Nat.le_refl _, ⟨k0, k1, k2, k3, k4, k5, k6, k7, k8⟩, rfl⟩
    · skip
      exact does_valT (.int .i64 b3) x (by kernel_rfl) ⟨Nat.le_refl _, ⟨k0, k1, k2, k3, k4, k5, k6, k7, k8⟩, rfl⟩
    · skip
      have e3 : vals 3 = .agg #[.int .u32 h2, .int .i64 p2] := (hr ⟨3, .data⟩ (by simp) rfl).2
      simp [does, doesUpon, go_sem, e3]
      refine (tb _).mono ?_
      rintro _ x' ⟨rfl, h1⟩
      exact ⟨_, rfl, h1.size, ⟨k0.since h1, k1.since h1, k2.since h1, k3.since h1, k4.since h1, Nat.le_trans k5 h1.size, k6.trans h1, k7, fun h => by obtain ⟨n, en, ln, Bn⟩ := k8 h; exact ⟨n, en, ln, Bn.since h1⟩⟩, rfl⟩
    · exact does_load lad_big rfl k1 _ rfl rfl ⟨Nat.le_refl _, ⟨k0, k1, k2, k3, k4, k5, k6, k7, k8⟩, rfl⟩
    · skip
      have e1 : vals 1 = .agg #[.int .u32 h1, .int .i64 p1] := (hr ⟨1, .data⟩ (by simp) rfl).2
      simp [does, doesUpon, go_sem, e1]
      refine (ta _).mono ?_
      rintro _ x' ⟨rfl, h1⟩
      exact ⟨_, rfl, h1.size, ⟨k0.since h1, k1.since h1, k2.since h1, k3.since h1, k4.since h1, Nat.le_trans k5 h1.size, k6.trans h1, k7, fun h => by obtain ⟨n, en, ln, Bn⟩ := k8 h; exact ⟨n, en, ln, Bn.since h1⟩⟩, rfl⟩
    · exact does_load lad_big rfl k0 _ rfl rfl ⟨Nat.le_refl _, ⟨k0, k1, k2, k3, k4, k5, k6, k7, k8⟩, rfl⟩
    · skip
      exact does_valT (.int .u32 b0) x (by kernel_rfl) ⟨Nat.le_refl _, ⟨k0, k1, k2, k3, k4, k5, k6, k7, k8⟩, rfl⟩
  intro f qv18 qw17 hK hf hv
  obtain ⟨k0, k1, k2, k3, k4, k5, k6, k7, k8⟩ := hK
  clear qB2 qB5 qB8 qB15 E G
  obtain ⟨qn16, hv12, qn16_l, qB19⟩ := k8 (hf 12 (by decide))
  rw [hf 13 (by decide)] at qB19
  replace qB19 : Blk qn16 qw17 (sgCells S) := qB19
  clear k8 k7
  have hv0 : qv18 0 = _ := hv 0 (by decide)
  have hv1 : qv18 1 = _ := hv 1 (by decide)
  have hv2 : qv18 2 = _ := hv 2 (by decide)
  have hv3 : qv18 3 = _ := hv 3 (by decide)
  have hv4 : qv18 4 = _ := hv 4 (by decide)
  have hv5 : qv18 5 = _ := hv 5 (by decide)
  have hv6 : qv18 6 = _ := hv 6 (by decide)
  have hv7 : qv18 7 = _ := hv 7 (by decide)
  have hv8 : qv18 8 = _ := hv 8 (by decide)
  have hv9 : qv18 9 = _ := hv 9 (by decide)
  have hv10 : qv18 10 = _ := hv 10 (by decide)
  have hv11 : qv18 11 = _ := hv 11 (by decide)
  have hv14 : qv18 14 = _ := hv 14 (by decide)
  clear hv hf
  simp only [hv0, hv1, hv2, hv3, hv4, hv5, hv6, hv7, hv8, hv9, hv10, hv11, hv14, hv12]
  clear hv0 hv1 hv2 hv3 hv4 hv5 hv6 hv7 hv8 hv9 hv10 hv11 hv14 hv12
  have qB2 := k0
  clear k0
  have qB5 := k1
  clear k1
  have qB8 := k2
  clear k2
  have qB15 := k3
  clear k3
  have E := k4
  clear k4
  have G := k6
  clear k6
  have qw17_l := k5
  clear k5
  have qB19_l := qB19.lt
  go_upto_region 7 with (fail)
  refine vR ?_
  refine vB seg_big qB19 rfl ?_
  refine vB seg_big qB15 rfl ?_
  refine vK (hq _) ?_
  intro qw20 qg21
  replace qB2 := qB2.since qg21
  replace qB5 := qB5.since qg21
  replace qB8 := qB8.since qg21
  replace qB15 := qB15.since qg21
  replace qB19 := qB19.since qg21
  replace E := E.since qg21
  replace G := G.trans qg21
  have qg21_s := qg21.size
  refine vV (.bool false) ?_
  refine vV (.bool false) ?_
  refine vV (.bool b) ?_
  refine vV (.bool b) ?_
  refine vV (.bool false) ?_ (hrun := by simp [execOp, go_sem])
  refine vV (.bool false) ?_
  refine vE #[.int .u32 b0,.agg #[.int .u32 h1, .int .i64 p1],.agg #[.int .u32 h2, .int .i64 p2],.int .i64 b3,.agg (sgCells s4),U,.pointer (some ⟨w.heap.size, 0, none⟩),.pointer (some ⟨qw1.heap.size, 0, none⟩),U,.pointer (some ⟨qw4.heap.size, 0, none⟩),.bool false,.int .i64 l,.pointer (some ⟨qn12, 0, none⟩),.bool b,.pointer (some ⟨qn16, 0, none⟩),.bool b,.agg (sgCells s4),.int .i64 1048576,.int .i64 l,.int .i64 l,.bool false,.tuple #[.agg (sgCells S), .bool b],.int .u32 b0,.agg #[.int .u32 h1, .int .i64 p1],.agg #[.int .u32 h1, .int .i64 p1],.agg #[.int .u32 h2, .int .i64 p2],.agg #[.int .u32 h2, .int .i64 p2],.int .i64 b3,.agg (sgCells s4),.agg (sgCells s4),.tuple #[.agg (sgCells S), .bool b],.agg (sgCells S),.bool b,.tuple #[.agg (sgCells S), .bool b],.int .u32 b0,.agg #[.int .u32 h1, .int .i64 p1],.agg #[.int .u32 h1, .int .i64 p1],.agg #[.int .u32 h2, .int .i64 p2],.agg #[.int .u32 h2, .int .i64 p2],.int .i64 b3,.agg (sgCells s4),.agg (sgCells s4),.tuple #[.agg (sgCells S), .bool b],.agg (sgCells S),.bool b,.agg (sgCells S),.agg (sgCells S),.bool true,.bool false,.bool false,.bool b,.bool b,.bool false,.bool false] ?_
  go_wp2_with (fail)
  go_ret
  exact ⟨rfl, G⟩

theorem laidM_of {W : World} (h : laidMetH Tryd.prog Rows.fnExactHearCookieRow.laid W) : LaidM W := by
  have h' : laidMet Tryd.prog Rows.fnExactHearCookieRow.laid W := h
  have hg : Tryd.prog.globalNamed "loop.example/g00107/impl.stepMss" = some 0 := by kernel_rfl
  have t : Lib.TabIs Tryd.prog W "loop.example/g00107/impl.stepMss" .i64 [64, 128, 256, 400, 536, 800, 1200, 1460] := Lib.tabIs_of_head hg (t := 78) (e := 3) (n := 8) (by kernel_rfl) Tryd.underlying78 Tryd.underlying3 (by kernel_rfl) (by kernel_rfl) h'
  refine ⟨fun i hi => (World.var?_cell hg t i).trans ?_⟩
  match i, hi with
  | 0, _ | 1, _ | 2, _ | 3, _ | 4, _ | 5, _ | 6, _ | 7, _ => rfl

set_option maxRecDepth 20000 in
theorem contract (H : Type) (enc : TypeId × Value → H) (W : World) (base : Nat) (args : Array Value) (ds gs : List (DataW H)) (before : List MemPlace)
    (hval : ∀ (j : Nat) t v, Tryd.f3.params[j]? = some t → args[j]? = some v → Value.okWide Tryd.prog W .any base t v)
    (hW : DataW.Whole enc Tryd.prog Tryd.f3.params.toList Rows.fnExactHearCookieSpec.vars false W args.toList ds gs before) (hL : laidMetH Tryd.prog Rows.fnExactHearCookieRow.laid W) :
    Calls Tryd.prog 3 args W fun e W' => ∃ v, e = .returned v ∧ Rows.fnExactHearCookieSpec.post enc Tryd.prog Tryd.f3 false true false false W args v W' := by
  have hW' := hW
  obtain ⟨p, q, hA0, hV, rfl, hfz, hnd⟩ := hW
  have hA : DataW.TrodAll enc Tryd.prog W 0 (fun _ => true) true Tryd.f3.params.toList args.toList ds p := hA0
  rw [Tryd.params3] at hA hval
  obtain ⟨v0, vs0, d0, ds0, p0, q0, hargs, rfl, rfl, h0, r0⟩ := trodAll_cons hA
  obtain ⟨v1, vs1, d1, ds1, p1, q1, rfl, rfl, rfl, h1, r1⟩ := trodAll_cons r0
  obtain ⟨v2, vs2, d2, ds2, p2, q2, rfl, rfl, rfl, h2, r2⟩ := trodAll_cons r1
  obtain ⟨v3, vs3, d3, ds3, p3, q3, rfl, rfl, rfl, h3, r3⟩ := trodAll_cons r2
  obtain ⟨v4, vs4, d4, ds4, p4, q4, rfl, rfl, rfl, h4, r4⟩ := trodAll_cons r3
  obtain ⟨rfl, rfl, rfl⟩ := trodAll_nil r4
  obtain rfl : args = #[v0, v1, v2, v3, v4] := by cases args; simp_all
  obtain ⟨gd, rfl⟩ : ∃ gd, gs = [gd] := by
    obtain ⟨_, _, _, _, gd, _, e, _⟩ := trodVars_one hV
    exact ⟨gd, e⟩
  have e0 := h0
  have lt0 : ∀ x ∈ p0, x.block < W.heap.size := by obtain ⟨m, hm⟩ := e0; exact DataW.trod_lt m _ _ _ hm
  have e1 := h1
  have lt1 : ∀ x ∈ p1, x.block < W.heap.size := by obtain ⟨m, hm⟩ := e1; exact DataW.trod_lt m _ _ _ hm
  have e2 := h2
  have lt2 : ∀ x ∈ p2, x.block < W.heap.size := by obtain ⟨m, hm⟩ := e2; exact DataW.trod_lt m _ _ _ hm
  have e3 := h3
  have lt3 : ∀ x ∈ p3, x.block < W.heap.size := by obtain ⟨m, hm⟩ := e3; exact DataW.trod_lt m _ _ _ hm
  have e4 := h4
  have lt4 : ∀ x ∈ p4, x.block < W.heap.size := by obtain ⟨m, hm⟩ := e4; exact DataW.trod_lt m _ _ _ hm
  obtain ⟨b0, rfl, _, _, x0⟩ := open_int Tryd.underlying22 (hval 0 22 v0 rfl rfl) h0
  obtain ⟨hv1, pv1, rfl, x1, y1⟩ := open_addr (hval 1 24 v1 rfl rfl) h1
  obtain ⟨hv2, pv2, rfl, x2, y2⟩ := open_addr (hval 2 24 v2 rfl rfl) h2
  obtain ⟨b3, rfl, _, _, x3⟩ := open_int Tryd.underlying3 (hval 3 3 v3 rfl rfl) h3
  obtain ⟨sv4, rfl, u4⟩ := open_seg (hval 4 26 v4 rfl rfl) h4
  clear hA0
  refine (walk b0 hv1 pv1 hv2 pv2 b3 sv4 W (laidM_of hL) x0 x1 y1 x2 y2 x3 u4).mono fun e W' ⟨he, bel⟩ => ?_
  subst he
  exact ⟨_, rfl, _, _, _, [], _, _, hW', trodAll_mk1 (shut_bool Tryd.underlying4 _), (trodAll_cons_mk (Below.trod laidOut (by kernel_rfl) (of_decide_eq_true (by kernel_rfl)) e0 bel lt0) (trodAll_cons_mk (Below.trod laidOut (by kernel_rfl) (of_decide_eq_true (by kernel_rfl)) e1 bel lt1) (trodAll_cons_mk (Below.trod laidOut (by kernel_rfl) (of_decide_eq_true (by kernel_rfl)) e2 bel lt2) (trodAll_cons_mk (Below.trod laidOut (by kernel_rfl) (of_decide_eq_true (by kernel_rfl)) e3 bel lt3) (trodAll_cons_mk (Below.trod laidOut (by kernel_rfl) (of_decide_eq_true (by kernel_rfl)) e4 bel lt4) trodAll_mk0))))), Below.trodVars laidOut bel (by kernel_rfl) hV, bel.frame _, fun h => by cases h⟩

/-- A world for the witness: the settled one, the variable's cell laid. -/
noncomputable def laidWorld (os : Os) : World :=
  let w0 := World.holding Tryd.prog os ⟨#[], #[], []⟩
  { w0 with heap := w0.heap.modify 0 fun
      | .cells _ t frozen => .cells #[.int .i64 64, .int .i64 128, .int .i64 256, .int .i64 400, .int .i64 536, .int .i64 800, .int .i64 1200, .int .i64 1460] t frozen
      | o => o }
theorem laid_met (os : Os) : laidMet Tryd.prog Rows.fnExactHearCookieRow.laid ((laidWorld os).forCall (fun _ _ => 0) ⟨#[], #[.int .u32 0, .agg #[.int .u32 0, .int .i64 0], .agg #[.int .u32 0, .int .i64 0], .int .i64 0, .agg #[.int .i64 0, .int .i64 0, .int .u32 0, .int .u32 0, .int .i64 0, .int .i64 0, .int .i64 0, .string ByteArray.empty]], []⟩).memory :=
  laidMet_of_run' 8 (by kernel_rfl) (by kernel_rfl)
theorem reads (os : Os) {H : Type} (enc : TypeId × Value → H) : ∃ places, DataW.whole enc Tryd.prog ((laidWorld os).forCall (fun _ _ => 0) ⟨#[], #[.int .u32 0, .agg #[.int .u32 0, .int .i64 0], .agg #[.int .u32 0, .int .i64 0], .int .i64 0, .agg #[.int .i64 0, .int .i64 0, .int .u32 0, .int .u32 0, .int .i64 0, .int .i64 0, .int .i64 0, .string ByteArray.empty]], []⟩).memory Tryd.f3.params.toList Rows.fnExactHearCookieSpec.vars false (#[.int .u32 0, .agg #[.int .u32 0, .int .i64 0], .agg #[.int .u32 0, .int .i64 0], .int .i64 0, .agg #[.int .i64 0, .int .i64 0, .int .u32 0, .int .u32 0, .int .i64 0, .int .i64 0, .int .i64 0, .string ByteArray.empty]] : Array Value).toList 8 = some ([.lit (.int .u32 0), .agg [.lit (.int .u32 0), .lit (.int .i64 0)], .agg [.lit (.int .u32 0), .lit (.int .i64 0)], .lit (.int .i64 0), .agg [.lit (.int .i64 0), .lit (.int .i64 0), .lit (.int .u32 0), .lit (.int .u32 0), .lit (.int .i64 0), .lit (.int .i64 0), .lit (.int .i64 0), .lit (.string [])]], [Rows.laid_loop_example_g00107_impl_stepMss], places) :=
  ⟨MemPlace.row ⟨0, 0, none⟩ 8, by kernel_rfl⟩

set_option maxRecDepth 100000 in
theorem lifted (os : Os) (started : os.Started) (H : Type) (enc : TypeId × Value → H) (F : Stop.Interp) :
    ReturnsInHanded {} Tryd.checked os 3 .any ((OpenSpec.ofChange Rows.fnExactHearCookieSpec).preRow enc Tryd.prog Tryd.f3 Rows.fnExactHearCookieRow.domain false Rows.fnExactHearCookieRow.laid) (((OpenSpec.ofChange Rows.fnExactHearCookieSpec).at F).post enc Tryd.prog Tryd.f3 false true false false) := by
  obtain ⟨places, hx⟩ := reads os enc
  refine returnsInHanded_of_row (C := Tryd.checked) (s := OpenSpec.ofChange Rows.fnExactHearCookieSpec) own started (by kernel_rfl) Tryd.func3
    (witness_row_at (enc := enc) (C := Tryd.checked) false (laidWorld os) #[.int .u32 0, .agg #[.int .u32 0, .int .i64 0], .agg #[.int .u32 0, .int .i64 0], .int .i64 0, .agg #[.int .i64 0, .int .i64 0, .int .u32 0, .int .u32 0, .int .i64 0, .int .i64 0, .int .i64 0, .string ByteArray.empty]] rfl (by kernel_rfl) (by kernel_rfl) (by kernel_rfl)
      (OpenSpec.preRow_of_cond 8 hx (by kernel_rfl) (fun k hk => by cases hk) (by kernel_rfl) (laid_met os))) ?_
  intro W base args ds gs before hval hW _ _ _ hL _ _
  exact contract H enc W base args ds gs before hval hW hL

theorem said : Rows.FnExactHearCookieSaid :=
  OpenClaim.holds_of_cond 3 Tryd.f3 rfl rfl rfl rfl rfl rfl rfl ⟨rfl, rfl, rfl, rfl, rfl⟩ rfl rfl rfl rfl rfl (by kernel_rfl) Tryd.func3 (by kernel_rfl)
    (of_decide_eq_true (by kernel_rfl)) (by unfold Func.isWrapper; first | (rw [if_pos (by decide +kernel)]; kernel_rfl) | (rw [if_neg (by decide +kernel)]; exact ⟨rfl, rfl⟩))
    (fun os started H enc _ F => by rw [OpenClaim.pre_eq_preRow]; exact lifted os started H enc F)

/-- No parameter wants a stand-in: what the card asks. -/
theorem plain (f : FuncId) (fn : Func) (hf : Tryd.pinned.checked.prog.funcNamed "loop.example/g00107/laws.FnExactHearCookie" = some f) (hfn : Tryd.pinned.checked.prog.funcs[f]? = some fn) :
    true = Tryd.pinned.checked.prog.looks [] ∧ ∀ (j : Nat) t, fn.params[j]? = some t → Tryd.pinned.checked.prog.wantsStandIn t = false := by
  obtain rfl : f = 3 := Option.some.inj ((show Tryd.prog.funcNamed "loop.example/g00107/laws.FnExactHearCookie" = some 3 by kernel_rfl).symm.trans hf) |>.symm
  obtain rfl : fn = Tryd.f3 := (Option.some.inj (Tryd.func3.symm.trans hfn)).symm
  refine ⟨by kernel_rfl, fun j t ht => ?_⟩
  rw [Tryd.params3] at ht
  match j, ht with
  | 0, ht =>
    obtain rfl : 22 = t := by simpa using ht
    exact (show Tryd.prog.wantsStandIn 22 = false by kernel_rfl)
  | 1, ht =>
    obtain rfl : 24 = t := by simpa using ht
    exact (show Tryd.prog.wantsStandIn 24 = false by kernel_rfl)
  | 2, ht =>
    obtain rfl : 24 = t := by simpa using ht
    exact (show Tryd.prog.wantsStandIn 24 = false by kernel_rfl)
  | 3, ht =>
    obtain rfl : 3 = t := by simpa using ht
    exact (show Tryd.prog.wantsStandIn 3 = false by kernel_rfl)
  | 4, ht =>
    obtain rfl : 26 = t := by simpa using ht
    exact (show Tryd.prog.wantsStandIn 26 = false by kernel_rfl)
  | n + 5, ht => simp at ht

theorem card : Rows.FnExactHearCookieCardSaid :=
  Claim7.holds_tied_plain_at .later [] _ _ _ _ said (fun _ h => by cases h) (by kernel_rfl) (fun _ h => by cases h) fnExactHearCookie_row_tie rfl ⟨rfl, rfl⟩ (by kernel_rfl) rfl plain (by kernel_rfl)
end Go.Proofs.YtjilpicpfddbfabDoor.fnExactHearCookie

namespace Go.Proofs.YtjilpicpfddbfabDoor
theorem fnExactHearCookie_holds : Rows.FnExactHearCookieCardSaid := fnExactHearCookie.card
#print axioms fnExactHearCookie_holds
end Go.Proofs.YtjilpicpfddbfabDoor
