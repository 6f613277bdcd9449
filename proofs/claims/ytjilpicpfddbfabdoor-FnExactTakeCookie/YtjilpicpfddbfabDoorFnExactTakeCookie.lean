/-
  Proved: at every argument impl.TakeCookie answers as spec.TakeCookie, and its answer owns its memory, where errors.errorType holds what the program's text lays (the law FnExactTakeCookie returns true, and its arguments read as before); of a segment whose Data has more than 1048576 bytes the law asks nothing.
-/
import Derived.Test.YtjilpicpfddbfabDoorRows
import Derived.Test.YtjilpicpfddbfabDoorCards
import Derived.Test.YtjilpicpfddbfabDoorTie
import Derived.Test.YtjilpicpfddbfabDoorConnNil
import Derived.Test.YtjilpicpfddbfabDoorOpenSeg
import Derived.Test.YtjilpicpfddbfabDoorOp15
import Derived.Test.YtjilpicpfddbfabDoorTakS15
import Derived.Test.YtjilpicpfddbfabDoorTakI15
import Derived.LaidLaws
import Derived.LaidHandle
import Derived.Deep.DeepHandedRow
import Derived.OpenVars
import Derived.WalkKit
import Derived.ProofKit
import Derived.OpenShut
import Derived.ShutString
import Derived.ChangeOld
import Derived.Below
import Derived.Carry
namespace Go.Proofs.YtjilpicpfddbfabDoor.fnExactTakeCookie
open Go.ChangeShapes Go.WideShapes Go.ChangeAt Go.RowKit
open Go.ChangeMaps (open_string shut_string)
set_option linter.unusedVariables false

theorem own : ownKnob Tryd.prog.godebug = none := by kernel_rfl
theorem laidOut : laidOutB Tryd.prog = true := by kernel_rfl

theorem tak_form (k0 h p j q e : Int) (s : Sg) (room now : Int) : ∃ C b, takV k0 h p j q e s room now = .tuple #[.agg (cnCells C), .bool b] ∧ NoParts C := by
  unfold takV
  split
  · exact ⟨_, _, rfl, rfl, rfl, rfl⟩
  · exact ⟨_, _, rfl, rfl, rfl, rfl⟩

set_option maxHeartbeats 16000000 in
set_option maxRecDepth 20000 in
theorem walk (b0 : Int) (h1 p1 : Int) (h2 p2 : Int) (b3 : Int) (s4 : Sg) (b5 : Int) (b6 : Int) (w : World) (E : Laid0 w) (x0 : (Lit.int .u32 b0).wf = true) (x1 : (Lit.int .u32 h1).wf = true) (y1 : (Lit.int .i64 p1).wf = true) (x2 : (Lit.int .u32 h2).wf = true) (y2 : (Lit.int .i64 p2).wf = true) (x3 : (Lit.int .i64 b3).wf = true) (u4 : WfS s4) (x5 : (Lit.int .i64 b5).wf = true) (x6 : (Lit.int .i64 b6).wf = true) :
    Calls Tryd.prog 4 #[.int .u32 b0, addrVal h1 p1, addrVal h2 p2, .int .i64 b3, .agg (sgCells s4), .int .i64 b5, .int .i64 b6] w fun e w' => e = .returned (.bool true) ∧ Below w.heap.size w w' := by
  have hE := E.lt
  have G := Since.refl w
  have hz := fun wx => szSg s4 1048576 (by omega) u4.v_d wx
  have ht := fun wx => toSg s4 wx
  have ta := fun wx => toAddr h1 p1 wx
  have tb := fun wx => toAddr h2 p2 wx
  unfold addrVal at *
  go_enter Tryd.func4, Tryd.ntmps4
  go_upto_region 0 with (fail)
  refine vR ?_
  refine vW (w.alloc (.cells #[.int .u32 h1, .int .i64 p1] 24)) (.pointer (some ⟨w.heap.size, 0, none⟩)) ?_
  have qB2 := Blk.new w #[.int .u32 h1, .int .i64 p1] 24
  have qg3 := (Since.refl w).alloc (.cells #[.int .u32 h1, .int .i64 p1] 24)
  replace E := E.since qg3
  replace G := G.trans qg3
  generalize w.alloc (.cells #[.int .u32 h1, .int .i64 p1] 24) = qw1 at E G qB2 qg3 ⊢
  have qB2_l := qB2.lt
  have qg3_s := qg3.size
  refine vW (qw1.alloc (.cells #[.int .u32 h2, .int .i64 p2] 24)) (.pointer (some ⟨qw1.heap.size, 0, none⟩)) ?_
  have qB5 := Blk.new qw1 #[.int .u32 h2, .int .i64 p2] 24
  have qg6 := (Since.refl qw1).alloc (.cells #[.int .u32 h2, .int .i64 p2] 24)
  replace qB2 := qB2.since qg6
  replace E := E.since qg6
  replace G := G.trans qg6
  generalize qw1.alloc (.cells #[.int .u32 h2, .int .i64 p2] 24) = qw4 at qB2 E G qB5 qg6 ⊢
  have qB5_l := qB5.lt
  have qg6_s := qg6.size
  refine vW (qw4.alloc (.cells (sgCells s4) 26)) (.pointer (some ⟨qw4.heap.size, 0, none⟩)) ?_
  have qB8 := Blk.new qw4 (sgCells s4) 26
  have qg9 := (Since.refl qw4).alloc (.cells (sgCells s4) 26)
  replace qB2 := qB2.since qg9
  replace qB5 := qB5.since qg9
  replace E := E.since qg9
  replace G := G.trans qg9
  generalize qw4.alloc (.cells (sgCells s4) 26) = qw7 at qB2 qB5 E G qB8 qg9 ⊢
  have qB8_l := qB8.lt
  have qg9_s := qg9.size
  refine vV (.bool false) ?_
  refine vE #[.int .u32 b0,.agg #[.int .u32 h1, .int .i64 p1],.agg #[.int .u32 h2, .int .i64 p2],.int .i64 b3,.agg (sgCells s4),.int .i64 b5,.int .i64 b6,U,.pointer (some ⟨w.heap.size, 0, none⟩),.pointer (some ⟨qw1.heap.size, 0, none⟩),U,.pointer (some ⟨qw4.heap.size, 0, none⟩),U,U,.bool false,U,U,U,U,U,U,U,U,U,U,U,U,U,U,U,U,U,U,U,U,U,U,U,U,U,U,U,U,U,U,U,U,U,U,U,U,U,U,U,U,U,U,U,U,U,U,U,U,U,U,U,U,U,U,U,U,U,U,U,U,U,U,U,U,U,U,U,U,U,U,U,U,U,U,U,U,U,U,U,U,U,U,U,U,U,U,U,U,U,U,U,U,U] ?_
  go_upto_region 2 with (fail)
  by_cases hbig : (s4.d.size : Int) ≤ 1048576
  case neg =>
    rw [show (if (s4.d.size : Int) ≤ 1048576 then (1048576 : Int) - s4.d.size else -1) = -1 from if_neg hbig] at hz
    clear hbig
    refine vR ?_
    refine vB lsg_big qB8 rfl ?_
    refine vV (.int .i64 1048576) ?_
    refine vK (hz _) ?_
    intro nw10 ng11
    replace qB2 := qB2.since ng11
    replace qB5 := qB5.since ng11
    replace qB8 := qB8.since ng11
    replace E := E.since ng11
    replace G := G.trans ng11
    have ng11_s := ng11.size
    refine vV (.int .i64 (-1)) ?_
    refine vE #[.int .u32 b0,.agg #[.int .u32 h1, .int .i64 p1],.agg #[.int .u32 h2, .int .i64 p2],.int .i64 b3,.agg (sgCells s4),.int .i64 b5,.int .i64 b6,U,.pointer (some ⟨w.heap.size, 0, none⟩),.pointer (some ⟨qw1.heap.size, 0, none⟩),U,.pointer (some ⟨qw4.heap.size, 0, none⟩),U,U,.bool false,.int .i64 (-1),U,U,U,U,U,U,U,U,.agg (sgCells s4),.int .i64 1048576,.int .i64 (-1),U,U,U,U,U,U,U,U,U,U,U,U,U,U,U,U,U,U,U,U,U,U,U,U,U,U,U,U,U,U,U,U,U,U,U,U,U,U,U,U,U,U,U,U,U,U,U,U,U,U,U,U,U,U,U,U,U,U,U,U,U,U,U,U,U,U,U,U,U,U,U,U,U,U,U,U,U,U,U,U,U] ?_
    go_wp2_with (fail)
    go_ret
    exact ⟨rfl, G⟩
  rw [show (if (s4.d.size : Int) ≤ 1048576 then (1048576 : Int) - s4.d.size else -1) = 1048576 - s4.d.size from if_pos hbig] at hz
  have hl0 : 0 ≤ (1048576 : Int) - s4.d.size := by omega
  generalize (1048576 : Int) - s4.d.size = l at hz hl0
  have hl : ¬ l < 0 := by omega
  clear hbig
  have hs := fun wx => specTake b0 h1 p1 h2 p2 b3 s4 b5 b6 (isInt_wf u4.v_fl) wx
  have hi := fun wx L => implTake15 b0 h1 p1 h2 p2 b3 s4 b5 b6 (isInt_wf u4.v_fl) wx L
  obtain ⟨C, b, hans, hN⟩ := tak_form b0 h1 p1 h2 p2 b3 s4 b5 b6
  rw [hans] at hs hi
  clear hans
  unfold addrVal at hs hi
  have he := fun wx => eq0 C hN wx
  have hm := fun wx => mark0 C hN wx
  have hh := fun wx => held0 C hN wx
  refine vR ?_
  refine vB lsg_big qB8 rfl ?_
  refine vV (.int .i64 1048576) ?_
  refine vK (hz _) ?_
  intro qw10 qg11
  replace qB2 := qB2.since qg11
  replace qB5 := qB5.since qg11
  replace qB8 := qB8.since qg11
  replace E := E.since qg11
  replace G := G.trans qg11
  have qg11_s := qg11.size
  refine vV (.int .i64 l) ?_
  refine vE #[.int .u32 b0,.agg #[.int .u32 h1, .int .i64 p1],.agg #[.int .u32 h2, .int .i64 p2],.int .i64 b3,.agg (sgCells s4),.int .i64 b5,.int .i64 b6,U,.pointer (some ⟨w.heap.size, 0, none⟩),.pointer (some ⟨qw1.heap.size, 0, none⟩),U,.pointer (some ⟨qw4.heap.size, 0, none⟩),U,U,.bool false,.int .i64 l,U,U,U,U,U,U,U,U,.agg (sgCells s4),.int .i64 1048576,.int .i64 l,U,U,U,U,U,U,U,U,U,U,U,U,U,U,U,U,U,U,U,U,U,U,U,U,U,U,U,U,U,U,U,U,U,U,U,U,U,U,U,U,U,U,U,U,U,U,U,U,U,U,U,U,U,U,U,U,U,U,U,U,U,U,U,U,U,U,U,U,U,U,U,U,U,U,U,U,U,U,U,U,U] ?_
  go_upto_region 5 with (fail)
  refine wp_region_low (fun x y => x.heap.size ≤ y.heap.size) (fun i x v => match i with
      | 0 => v = .int .u32 b0
      | 1 => v = .agg #[.int .u32 h1, .int .i64 p1]
      | 2 => v = .agg #[.int .u32 h1, .int .i64 p1]
      | 3 => v = .agg #[.int .u32 h2, .int .i64 p2]
      | 4 => v = .agg #[.int .u32 h2, .int .i64 p2]
      | 5 => v = .int .i64 b3
      | 6 => v = .agg (sgCells s4)
      | 7 => v = .agg (sgCells s4)
      | 8 => v = .int .i64 b5
      | 9 => v = .int .i64 b6
      | 10 => v = .tuple #[.agg (cnCells C), .bool b]
      | 11 => v = .tuple #[.agg (cnCells C), .bool b]
      | 12 => v = .agg (cnCells C)
      | 13 => v = .bool b
      | 16 => v = .bool b
      | _ => True) (fun f vals x => Blk w.heap.size x #[.int .u32 h1, .int .i64 p1] ∧ Blk qw1.heap.size x #[.int .u32 h2, .int .i64 p2] ∧ Blk qw4.heap.size x (sgCells s4) ∧ Laid0 x ∧ qw10.heap.size ≤ x.heap.size ∧ Since w x ∧ (f 15 = true → f 14 = true) ∧ (f 14 = true → ∃ n, vals 14 = .pointer (some ⟨n, 0, none⟩) ∧ qw10.heap.size ≤ n ∧ Blk n x (if f 15 then (cnCells C) else (cnCells cnZero)))) (fun v => { tmps := #[.int .u32 b0, .agg #[.int .u32 h1, .int .i64 p1], .agg #[.int .u32 h2, .int .i64 p2], .int .i64 b3, .agg (sgCells s4), .int .i64 b5, .int .i64 b6, undef, .pointer (some ⟨w.heap.size, 0, none⟩), .pointer (some ⟨qw1.heap.size, 0, none⟩), undef, .pointer (some ⟨qw4.heap.size, 0, none⟩), undef, undef, .bool false, .int .i64 l, v 14, v 16, undef, undef, undef, undef, undef, undef, .agg (sgCells s4), .int .i64 1048576, .int .i64 l, .int .i64 l, .bool false, v 11, v 0, v 1, v 2, v 3, v 4, v 5, v 6, v 7, v 8, v 9, v 10, v 12, v 13, undef, undef, undef, undef, undef, undef, undef, undef, undef, undef, undef, undef, undef, undef, undef, undef, undef, undef, undef, undef, undef, undef, undef, undef, undef, undef, undef, undef, undef, undef, undef, undef, undef, undef, undef, undef, undef, undef, undef, undef, undef, undef, undef, undef, undef, undef, undef, undef, undef, undef, undef, undef, undef, undef, undef, undef, undef, undef, undef, undef, undef, undef, undef, undef, undef], defers := [] }) (by kernel_rfl) (by kernel_rfl) ?_ ?_ (fun vals => by kernel_rfl) ?_ ?_
  case refine_1 =>
    intro j x y v hl hv
    match j, hv with
    | 0, hv | 1, hv | 2, hv | 3, hv | 4, hv | 5, hv | 6, hv | 7, hv | 8, hv | 9, hv | 10, hv | 11, hv | 12, hv | 13, hv | 16, hv => exact hv
    | 14, hv | 15, hv => trivial
    | n + 17, _ => trivial
  case refine_2 =>
    intro f vals hf
    refine ⟨qB2.since ((Since.refl _).drew), qB5.since ((Since.refl _).drew), qB8.since ((Since.refl _).drew), E.since ((Since.refl _).drew), ((Since.refl _).drew).size, G.trans ((Since.refl _).drew), (fun h => by rw [hf] at h; cases h), (fun h => by rw [hf] at h; cases h)⟩
  case refine_3 =>
    repeat (first | exact eachLow_nil | refine eachLow_cons ?_ ?_)
    all_goals intro f vals x hf hr hK
    all_goals obtain ⟨k0, k1, k2, k3, k4, k5, k6, k7⟩ := hK
    · skip
      have e13 : vals 13 = .bool b := (hr ⟨13, .data⟩ (by simp) rfl).2
      exact does_valT (.bool b) x (by simp only [e13]; kernel_rfl) ⟨Nat.le_refl _, ⟨k0, k1, k2, k3, k4, k5, k6, k7⟩, rfl⟩
    · have fa : f 14 = true := (hr ⟨14, .data⟩ (by simp) rfl).1
      have e12 : vals 12 = .agg (cnCells C) := (hr ⟨12, .data⟩ (by simp) rfl).2
      obtain ⟨n, en, ln, Bn⟩ := k7 fa
      rw [hf] at Bn
      refine does_store cn_big (cn_size _) (Raw.of Bn (cn_size _)) (cn_one _) _ _ rfl en e12 ?_
      intro z t B
      exact ⟨t.size, ⟨k0.touch t (by omega), k1.touch t (by omega), k2.touch t (by omega), k3.touch t (by omega), Nat.le_trans k4 t.size, since_touch k5 t (by omega), fun _ => fa, fun _ => ⟨n, en, ln, B⟩⟩, trivial⟩
    · have h1 := (Since.refl x).alloc (.cells (cnCells cnZero) 46)
      have hq : f 15 = false := by
        cases e : f 15 with
        | false => rfl
        | true => rw [k6 e] at hf; cases hf
      exact does_valT (.pointer (some ⟨x.heap.size, 0, none⟩)) (x.alloc (.cells (cnCells cnZero) 46)) (by kernel_rfl) ⟨h1.size, ⟨k0.since h1, k1.since h1, k2.since h1, k3.since h1, Nat.le_trans k4 h1.size, k5.trans h1, fun _ => rfl, fun _ => ⟨x.heap.size, rfl, k4, by rw [show andDone f 14 15 = f 15 from rfl, hq]; exact Blk.new x (cnCells cnZero) 46⟩⟩, trivial⟩
    · skip
      have e11 : vals 11 = .tuple #[.agg (cnCells C), .bool b] := (hr ⟨11, .data⟩ (by simp) rfl).2
      exact does_valT (.bool b) x (by simp only [e11]; kernel_rfl) ⟨Nat.le_refl _, ⟨k0, k1, k2, k3, k4, k5, k6, k7⟩, rfl⟩
    · skip
      have e11 : vals 11 = .tuple #[.agg (cnCells C), .bool b] := (hr ⟨11, .data⟩ (by simp) rfl).2
      exact does_valT (.agg (cnCells C)) x (by simp only [e11]; kernel_rfl) ⟨Nat.le_refl _, ⟨k0, k1, k2, k3, k4, k5, k6, k7⟩, rfl⟩
    · skip
      have e10 : vals 10 = .tuple #[.agg (cnCells C), .bool b] := (hr ⟨10, .data⟩ (by simp) rfl).2
      exact does_valT (.tuple #[.agg (cnCells C), .bool b]) x (by simp only [e10]; kernel_rfl) ⟨Nat.le_refl _, ⟨k0, k1, k2, k3, k4, k5, k6, k7⟩, rfl⟩
    · skip
      have e0 : vals 0 = .int .u32 b0 := (hr ⟨0, .data⟩ (by simp) rfl).2
      have e2 : vals 2 = .agg #[.int .u32 h1, .int .i64 p1] := (hr ⟨2, .data⟩ (by simp) rfl).2
      have e4 : vals 4 = .agg #[.int .u32 h2, .int .i64 p2] := (hr ⟨4, .data⟩ (by simp) rfl).2
      have e5 : vals 5 = .int .i64 b3 := (hr ⟨5, .data⟩ (by simp) rfl).2
      have e7 : vals 7 = .agg (sgCells s4) := (hr ⟨7, .data⟩ (by simp) rfl).2
      have e8 : vals 8 = .int .i64 b5 := (hr ⟨8, .data⟩ (by simp) rfl).2
      have e9 : vals 9 = .int .i64 b6 := (hr ⟨9, .data⟩ (by simp) rfl).2
      simp [does, doesUpon, go_sem, e0, e2, e4, e5, e7, e8, e9]
      refine (hs _).mono ?_
      rintro _ x' ⟨rfl, h1⟩
      exact ⟨_, rfl, h1.size, ⟨k0.since h1, k1.since h1, k2.since h1, k3.since h1, Nat.le_trans k4 h1.size, k5.trans h1, k6, fun h => by obtain ⟨n, en, ln, Bn⟩ := k7 h; exact ⟨n, en, ln, Bn.since h1⟩⟩, rfl⟩
    · skip
      exact does_valT (.int .i64 b6) x (by kernel_rfl) ⟨Nat.le_refl _, ⟨k0, k1, k2, k3, k4, k5, k6, k7⟩, rfl⟩
    · skip
      exact does_valT (.int .i64 b5) x (by kernel_rfl) ⟨Nat.le_refl _, ⟨k0, k1, k2, k3, k4, k5, k6, k7⟩, rfl⟩
    · skip
      have e6 : vals 6 = .agg (sgCells s4) := (hr ⟨6, .data⟩ (by simp) rfl).2
      simp [does, doesUpon, go_sem, e6]
      refine (ht _).mono ?_
      rintro _ x' ⟨rfl, h1⟩
      exact ⟨_, rfl, h1.size, ⟨k0.since h1, k1.since h1, k2.since h1, k3.since h1, Nat.le_trans k4 h1.size, k5.trans h1, k6, fun h => by obtain ⟨n, en, ln, Bn⟩ := k7 h; exact ⟨n, en, ln, Bn.since h1⟩⟩, rfl⟩
    · exact does_load lsg_big rfl k2 _ rfl rfl ⟨Nat.le_refl _, ⟨k0, k1, k2, k3, k4, k5, k6, k7⟩, rfl⟩
    · skip
      exact does_valT (.int .i64 b3) x (by kernel_rfl) ⟨Nat.le_refl _, ⟨k0, k1, k2, k3, k4, k5, k6, k7⟩, rfl⟩
    · skip
      have e3 : vals 3 = .agg #[.int .u32 h2, .int .i64 p2] := (hr ⟨3, .data⟩ (by simp) rfl).2
      simp [does, doesUpon, go_sem, e3]
      refine (tb _).mono ?_
      rintro _ x' ⟨rfl, h1⟩
      exact ⟨_, rfl, h1.size, ⟨k0.since h1, k1.since h1, k2.since h1, k3.since h1, Nat.le_trans k4 h1.size, k5.trans h1, k6, fun h => by obtain ⟨n, en, ln, Bn⟩ := k7 h; exact ⟨n, en, ln, Bn.since h1⟩⟩, rfl⟩
    · exact does_load lad_big rfl k1 _ rfl rfl ⟨Nat.le_refl _, ⟨k0, k1, k2, k3, k4, k5, k6, k7⟩, rfl⟩
    · skip
      have e1 : vals 1 = .agg #[.int .u32 h1, .int .i64 p1] := (hr ⟨1, .data⟩ (by simp) rfl).2
      simp [does, doesUpon, go_sem, e1]
      refine (ta _).mono ?_
      rintro _ x' ⟨rfl, h1⟩
      exact ⟨_, rfl, h1.size, ⟨k0.since h1, k1.since h1, k2.since h1, k3.since h1, Nat.le_trans k4 h1.size, k5.trans h1, k6, fun h => by obtain ⟨n, en, ln, Bn⟩ := k7 h; exact ⟨n, en, ln, Bn.since h1⟩⟩, rfl⟩
    · exact does_load lad_big rfl k0 _ rfl rfl ⟨Nat.le_refl _, ⟨k0, k1, k2, k3, k4, k5, k6, k7⟩, rfl⟩
    · skip
      exact does_valT (.int .u32 b0) x (by kernel_rfl) ⟨Nat.le_refl _, ⟨k0, k1, k2, k3, k4, k5, k6, k7⟩, rfl⟩
  intro f qv14 qw13 hK hf hv
  obtain ⟨k0, k1, k2, k3, k4, k5, k6, k7⟩ := hK
  clear qB2 qB5 qB8 E G
  obtain ⟨qn12, hv14, qn12_l, qB15⟩ := k7 (hf 14 (by decide))
  rw [hf 15 (by decide)] at qB15
  replace qB15 : Blk qn12 qw13 (cnCells C) := qB15
  clear k7 k6
  have hv0 : qv14 0 = _ := hv 0 (by decide)
  have hv1 : qv14 1 = _ := hv 1 (by decide)
  have hv2 : qv14 2 = _ := hv 2 (by decide)
  have hv3 : qv14 3 = _ := hv 3 (by decide)
  have hv4 : qv14 4 = _ := hv 4 (by decide)
  have hv5 : qv14 5 = _ := hv 5 (by decide)
  have hv6 : qv14 6 = _ := hv 6 (by decide)
  have hv7 : qv14 7 = _ := hv 7 (by decide)
  have hv8 : qv14 8 = _ := hv 8 (by decide)
  have hv9 : qv14 9 = _ := hv 9 (by decide)
  have hv10 : qv14 10 = _ := hv 10 (by decide)
  have hv11 : qv14 11 = _ := hv 11 (by decide)
  have hv12 : qv14 12 = _ := hv 12 (by decide)
  have hv13 : qv14 13 = _ := hv 13 (by decide)
  have hv16 : qv14 16 = _ := hv 16 (by decide)
  clear hv hf
  simp only [hv0, hv1, hv2, hv3, hv4, hv5, hv6, hv7, hv8, hv9, hv10, hv11, hv12, hv13, hv16, hv14]
  clear hv0 hv1 hv2 hv3 hv4 hv5 hv6 hv7 hv8 hv9 hv10 hv11 hv12 hv13 hv16 hv14
  have qB2 := k0
  clear k0
  have qB5 := k1
  clear k1
  have qB8 := k2
  clear k2
  have E := k3
  clear k3
  have G := k5
  clear k5
  have qw13_l := k4
  clear k4
  have qB15_l := qB15.lt
  go_upto_region 6 with (fail)
  refine wp_region_low (fun x y => x.heap.size ≤ y.heap.size) (fun i x v => match i with
      | 0 => v = .int .u32 b0
      | 1 => v = .agg #[.int .u32 h1, .int .i64 p1]
      | 2 => v = .agg #[.int .u32 h1, .int .i64 p1]
      | 3 => v = .agg #[.int .u32 h2, .int .i64 p2]
      | 4 => v = .agg #[.int .u32 h2, .int .i64 p2]
      | 5 => v = .int .i64 b3
      | 6 => v = .agg (sgCells s4)
      | 7 => v = .agg (sgCells s4)
      | 8 => v = .int .i64 b5
      | 9 => v = .int .i64 b6
      | 10 => v = .tuple #[.agg (cnCells C), .bool b]
      | 11 => v = .tuple #[.agg (cnCells C), .bool b]
      | 12 => v = .agg (cnCells C)
      | 13 => v = .bool b
      | 16 => v = .bool b
      | _ => True) (fun f vals x => Blk w.heap.size x #[.int .u32 h1, .int .i64 p1] ∧ Blk qw1.heap.size x #[.int .u32 h2, .int .i64 p2] ∧ Blk qw4.heap.size x (sgCells s4) ∧ Blk qn12 x (cnCells C) ∧ Laid0 x ∧ qw13.heap.size ≤ x.heap.size ∧ Since w x ∧ (f 15 = true → f 14 = true) ∧ (f 14 = true → ∃ n, vals 14 = .pointer (some ⟨n, 0, none⟩) ∧ qw13.heap.size ≤ n ∧ Blk n x (if f 15 then (cnCells C) else (cnCells cnZero)))) (fun v => { tmps := #[.int .u32 b0, .agg #[.int .u32 h1, .int .i64 p1], .agg #[.int .u32 h2, .int .i64 p2], .int .i64 b3, .agg (sgCells s4), .int .i64 b5, .int .i64 b6, undef, .pointer (some ⟨w.heap.size, 0, none⟩), .pointer (some ⟨qw1.heap.size, 0, none⟩), undef, .pointer (some ⟨qw4.heap.size, 0, none⟩), undef, undef, .bool false, .int .i64 l, .pointer (some ⟨qn12, 0, none⟩), .bool b, v 14, v 16, undef, undef, undef, undef, .agg (sgCells s4), .int .i64 1048576, .int .i64 l, .int .i64 l, .bool false, .tuple #[.agg (cnCells C), .bool b], .int .u32 b0, .agg #[.int .u32 h1, .int .i64 p1], .agg #[.int .u32 h1, .int .i64 p1], .agg #[.int .u32 h2, .int .i64 p2], .agg #[.int .u32 h2, .int .i64 p2], .int .i64 b3, .agg (sgCells s4), .agg (sgCells s4), .int .i64 b5, .int .i64 b6, .tuple #[.agg (cnCells C), .bool b], .agg (cnCells C), .bool b, v 11, v 0, v 1, v 2, v 3, v 4, v 5, v 6, v 7, v 8, v 9, v 10, v 12, v 13, undef, undef, undef, undef, undef, undef, undef, undef, undef, undef, undef, undef, undef, undef, undef, undef, undef, undef, undef, undef, undef, undef, undef, undef, undef, undef, undef, undef, undef, undef, undef, undef, undef, undef, undef, undef, undef, undef, undef, undef, undef, undef, undef, undef, undef, undef, undef, undef, undef, undef, undef], defers := [] }) (by kernel_rfl) (by kernel_rfl) ?_ ?_ (fun vals => by kernel_rfl) ?_ ?_
  case refine_1 =>
    intro j x y v hl hv
    match j, hv with
    | 0, hv | 1, hv | 2, hv | 3, hv | 4, hv | 5, hv | 6, hv | 7, hv | 8, hv | 9, hv | 10, hv | 11, hv | 12, hv | 13, hv | 16, hv => exact hv
    | 14, hv | 15, hv => trivial
    | n + 17, _ => trivial
  case refine_2 =>
    intro f vals hf
    refine ⟨qB2.since ((Since.refl _).drew), qB5.since ((Since.refl _).drew), qB8.since ((Since.refl _).drew), qB15.since ((Since.refl _).drew), E.since ((Since.refl _).drew), ((Since.refl _).drew).size, G.trans ((Since.refl _).drew), (fun h => by rw [hf] at h; cases h), (fun h => by rw [hf] at h; cases h)⟩
  case refine_3 =>
    repeat (first | exact eachLow_nil | refine eachLow_cons ?_ ?_)
    all_goals intro f vals x hf hr hK
    all_goals obtain ⟨k0, k1, k2, k3, k4, k5, k6, k7, k8⟩ := hK
    · skip
      have e13 : vals 13 = .bool b := (hr ⟨13, .data⟩ (by simp) rfl).2
      exact does_valT (.bool b) x (by simp only [e13]; kernel_rfl) ⟨Nat.le_refl _, ⟨k0, k1, k2, k3, k4, k5, k6, k7, k8⟩, rfl⟩
    · have fa : f 14 = true := (hr ⟨14, .data⟩ (by simp) rfl).1
      have e12 : vals 12 = .agg (cnCells C) := (hr ⟨12, .data⟩ (by simp) rfl).2
      obtain ⟨n, en, ln, Bn⟩ := k8 fa
      rw [hf] at Bn
      refine does_store cn_big (cn_size _) (Raw.of Bn (cn_size _)) (cn_one _) _ _ rfl en e12 ?_
      intro z t B
      exact ⟨t.size, ⟨k0.touch t (by omega), k1.touch t (by omega), k2.touch t (by omega), k3.touch t (by omega), k4.touch t (by omega), Nat.le_trans k5 t.size, since_touch k6 t (by omega), fun _ => fa, fun _ => ⟨n, en, ln, B⟩⟩, trivial⟩
    · have h1 := (Since.refl x).alloc (.cells (cnCells cnZero) 46)
      have hq : f 15 = false := by
        cases e : f 15 with
        | false => rfl
        | true => rw [k7 e] at hf; cases hf
      exact does_valT (.pointer (some ⟨x.heap.size, 0, none⟩)) (x.alloc (.cells (cnCells cnZero) 46)) (by kernel_rfl) ⟨h1.size, ⟨k0.since h1, k1.since h1, k2.since h1, k3.since h1, k4.since h1, Nat.le_trans k5 h1.size, k6.trans h1, fun _ => rfl, fun _ => ⟨x.heap.size, rfl, k5, by rw [show andDone f 14 15 = f 15 from rfl, hq]; exact Blk.new x (cnCells cnZero) 46⟩⟩, trivial⟩
    · skip
      have e11 : vals 11 = .tuple #[.agg (cnCells C), .bool b] := (hr ⟨11, .data⟩ (by simp) rfl).2
      exact does_valT (.bool b) x (by simp only [e11]; kernel_rfl) ⟨Nat.le_refl _, ⟨k0, k1, k2, k3, k4, k5, k6, k7, k8⟩, rfl⟩
    · skip
      have e11 : vals 11 = .tuple #[.agg (cnCells C), .bool b] := (hr ⟨11, .data⟩ (by simp) rfl).2
      exact does_valT (.agg (cnCells C)) x (by simp only [e11]; kernel_rfl) ⟨Nat.le_refl _, ⟨k0, k1, k2, k3, k4, k5, k6, k7, k8⟩, rfl⟩
    · skip
      have e10 : vals 10 = .tuple #[.agg (cnCells C), .bool b] := (hr ⟨10, .data⟩ (by simp) rfl).2
      exact does_valT (.tuple #[.agg (cnCells C), .bool b]) x (by simp only [e10]; kernel_rfl) ⟨Nat.le_refl _, ⟨k0, k1, k2, k3, k4, k5, k6, k7, k8⟩, rfl⟩
    · skip
      have e0 : vals 0 = .int .u32 b0 := (hr ⟨0, .data⟩ (by simp) rfl).2
      have e2 : vals 2 = .agg #[.int .u32 h1, .int .i64 p1] := (hr ⟨2, .data⟩ (by simp) rfl).2
      have e4 : vals 4 = .agg #[.int .u32 h2, .int .i64 p2] := (hr ⟨4, .data⟩ (by simp) rfl).2
      have e5 : vals 5 = .int .i64 b3 := (hr ⟨5, .data⟩ (by simp) rfl).2
      have e7 : vals 7 = .agg (sgCells s4) := (hr ⟨7, .data⟩ (by simp) rfl).2
      have e8 : vals 8 = .int .i64 b5 := (hr ⟨8, .data⟩ (by simp) rfl).2
      have e9 : vals 9 = .int .i64 b6 := (hr ⟨9, .data⟩ (by simp) rfl).2
      simp [does, doesUpon, go_sem, e0, e2, e4, e5, e7, e8, e9]
      refine (hi _ k4).mono ?_
      rintro _ x' ⟨rfl, h1⟩
      exact ⟨_, rfl, h1.size, ⟨k0.since h1, k1.since h1, k2.since h1, k3.since h1, k4.since h1, Nat.le_trans k5 h1.size, k6.trans h1, k7, fun h => by obtain ⟨n, en, ln, Bn⟩ := k8 h; exact ⟨n, en, ln, Bn.since h1⟩⟩, rfl⟩
    · skip
      exact does_valT (.int .i64 b6) x (by kernel_rfl) ⟨Nat.le_refl _, ⟨k0, k1, k2, k3, k4, k5, k6, k7, k8⟩, rfl⟩
    · skip
      exact does_valT (.int .i64 b5) x (by kernel_rfl) ⟨Nat.le_refl _, ⟨k0, k1, k2, k3, k4, k5, k6, k7, k8⟩, rfl⟩
    · skip
      have e6 : vals 6 = .agg (sgCells s4) := (hr ⟨6, .data⟩ (by simp) rfl).2
      simp [does, doesUpon, go_sem, e6]
      refine (ht _).mono ?_
      rintro _ x' ⟨rfl, h1⟩
      exact ⟨_, rfl, h1.size, ⟨k0.since h1, k1.since h1, k2.since h1, k3.since h1, k4.since h1, Nat.le_trans k5 h1.size, k6.trans h1, k7, fun h => by obtain ⟨n, en, ln, Bn⟩ := k8 h; exact ⟨n, en, ln, Bn.since h1⟩⟩, rfl⟩
    · exact does_load lsg_big rfl k2 _ rfl rfl ⟨Nat.le_refl _, ⟨k0, k1, k2, k3, k4, k5, k6, k7, k8⟩, rfl⟩
    · skip
      exact does_valT (.int .i64 b3) x (by kernel_rfl) ⟨Nat.le_refl _, ⟨k0, k1, k2, k3, k4, k5, k6, k7, k8⟩, rfl⟩
    · skip
      have e3 : vals 3 = .agg #[.int .u32 h2, .int .i64 p2] := (hr ⟨3, .data⟩ (by simp) rfl).2
      simp [does, doesUpon, go_sem, e3]
      refine (tb _).mono ?_
      rintro _ x' ⟨rfl, h1⟩
      exact ⟨_, rfl, h1.size, ⟨k0.since h1, k1.since h1, k2.since h1, k3.since h1, k4.since h1, Nat.le_trans k5 h1.size, k6.trans h1, k7, fun h => by obtain ⟨n, en, ln, Bn⟩ := k8 h; exact ⟨n, en, ln, Bn.since h1⟩⟩, rfl⟩
    · exact does_load lad_big rfl k1 _ rfl rfl ⟨Nat.le_refl _, ⟨k0, k1, k2, k3, k4, k5, k6, k7, k8⟩, rfl⟩
    · skip
      have e1 : vals 1 = .agg #[.int .u32 h1, .int .i64 p1] := (hr ⟨1, .data⟩ (by simp) rfl).2
      simp [does, doesUpon, go_sem, e1]
      refine (ta _).mono ?_
      rintro _ x' ⟨rfl, h1⟩
      exact ⟨_, rfl, h1.size, ⟨k0.since h1, k1.since h1, k2.since h1, k3.since h1, k4.since h1, Nat.le_trans k5 h1.size, k6.trans h1, k7, fun h => by obtain ⟨n, en, ln, Bn⟩ := k8 h; exact ⟨n, en, ln, Bn.since h1⟩⟩, rfl⟩
    · exact does_load lad_big rfl k0 _ rfl rfl ⟨Nat.le_refl _, ⟨k0, k1, k2, k3, k4, k5, k6, k7, k8⟩, rfl⟩
    · skip
      exact does_valT (.int .u32 b0) x (by kernel_rfl) ⟨Nat.le_refl _, ⟨k0, k1, k2, k3, k4, k5, k6, k7, k8⟩, rfl⟩
  intro f qv18 qw17 hK hf hv
  obtain ⟨k0, k1, k2, k3, k4, k5, k6, k7, k8⟩ := hK
  clear qB2 qB5 qB8 qB15 E G
  obtain ⟨qn16, hv14, qn16_l, qB19⟩ := k8 (hf 14 (by decide))
  rw [hf 15 (by decide)] at qB19
  replace qB19 : Blk qn16 qw17 (cnCells C) := qB19
  clear k8 k7
  have hv0 : qv18 0 = _ := hv 0 (by decide)
  have hv1 : qv18 1 = _ := hv 1 (by decide)
  have hv2 : qv18 2 = _ := hv 2 (by decide)
  have hv3 : qv18 3 = _ := hv 3 (by decide)
  have hv4 : qv18 4 = _ := hv 4 (by decide)
  have hv5 : qv18 5 = _ := hv 5 (by decide)
  have hv6 : qv18 6 = _ := hv 6 (by decide)
  have hv7 : qv18 7 = _ := hv 7 (by decide)
  have hv8 : qv18 8 = _ := hv 8 (by decide)
  have hv9 : qv18 9 = _ := hv 9 (by decide)
  have hv10 : qv18 10 = _ := hv 10 (by decide)
  have hv11 : qv18 11 = _ := hv 11 (by decide)
  have hv12 : qv18 12 = _ := hv 12 (by decide)
  have hv13 : qv18 13 = _ := hv 13 (by decide)
  have hv16 : qv18 16 = _ := hv 16 (by decide)
  clear hv hf
  simp only [hv0, hv1, hv2, hv3, hv4, hv5, hv6, hv7, hv8, hv9, hv10, hv11, hv12, hv13, hv16, hv14]
  clear hv0 hv1 hv2 hv3 hv4 hv5 hv6 hv7 hv8 hv9 hv10 hv11 hv12 hv13 hv16 hv14
  have qB2 := k0
  clear k0
  have qB5 := k1
  clear k1
  have qB8 := k2
  clear k2
  have qB15 := k3
  clear k3
  have E := k4
  clear k4
  have G := k6
  clear k6
  have qw17_l := k5
  clear k5
  have qB19_l := qB19.lt
  go_upto_region 7 with (fail)
  refine vR ?_
  refine vB cn_big qB19 (cn_size _) ?_
  refine vB cn_big qB15 (cn_size _) ?_
  refine vK (he _) ?_
  intro qw20 qg21
  replace qB2 := qB2.since qg21
  replace qB5 := qB5.since qg21
  replace qB8 := qB8.since qg21
  replace qB15 := qB15.since qg21
  replace qB19 := qB19.since qg21
  replace E := E.since qg21
  replace G := G.trans qg21
  have qg21_s := qg21.size
  refine vV (.bool false) ?_
  refine vV (.bool false) ?_
  refine vV (.bool b) ?_
  refine vV (.bool b) ?_
  refine vV (.bool false) ?_ (hrun := by simp [execOp, go_sem])
  refine vV (.bool false) ?_
  refine vE #[.int .u32 b0,.agg #[.int .u32 h1, .int .i64 p1],.agg #[.int .u32 h2, .int .i64 p2],.int .i64 b3,.agg (sgCells s4),.int .i64 b5,.int .i64 b6,U,.pointer (some ⟨w.heap.size, 0, none⟩),.pointer (some ⟨qw1.heap.size, 0, none⟩),U,.pointer (some ⟨qw4.heap.size, 0, none⟩),U,U,.bool false,.int .i64 l,.pointer (some ⟨qn12, 0, none⟩),.bool b,.pointer (some ⟨qn16, 0, none⟩),.bool b,U,U,U,U,.agg (sgCells s4),.int .i64 1048576,.int .i64 l,.int .i64 l,.bool false,.tuple #[.agg (cnCells C), .bool b],.int .u32 b0,.agg #[.int .u32 h1, .int .i64 p1],.agg #[.int .u32 h1, .int .i64 p1],.agg #[.int .u32 h2, .int .i64 p2],.agg #[.int .u32 h2, .int .i64 p2],.int .i64 b3,.agg (sgCells s4),.agg (sgCells s4),.int .i64 b5,.int .i64 b6,.tuple #[.agg (cnCells C), .bool b],.agg (cnCells C),.bool b,.tuple #[.agg (cnCells C), .bool b],.int .u32 b0,.agg #[.int .u32 h1, .int .i64 p1],.agg #[.int .u32 h1, .int .i64 p1],.agg #[.int .u32 h2, .int .i64 p2],.agg #[.int .u32 h2, .int .i64 p2],.int .i64 b3,.agg (sgCells s4),.agg (sgCells s4),.int .i64 b5,.int .i64 b6,.tuple #[.agg (cnCells C), .bool b],.agg (cnCells C),.bool b,.agg (cnCells C),.agg (cnCells C),.bool true,.bool false,.bool false,.bool b,.bool b,.bool false,.bool false,U,U,U,U,U,U,U,U,U,U,U,U,U,U,U,U,U,U,U,U,U,U,U,U,U,U,U,U,U,U,U,U,U,U,U,U,U,U,U,U,U,U] ?_
  go_upto_region 10 with (fail)
  refine vR ?_
  refine vB cn_big qB19 (cn_size _) ?_
  refine vV (.int .i64 1) ?_
  refine vK (hm _) ?_
  intro qw22 qg23
  replace qB2 := qB2.since qg23
  replace qB5 := qB5.since qg23
  replace qB8 := qB8.since qg23
  replace qB15 := qB15.since qg23
  replace qB19 := qB19.since qg23
  replace E := E.since qg23
  replace G := G.trans qg23
  have qg23_s := qg23.size
  refine vV (.int .i64 1) ?_
  refine vE #[.int .u32 b0,.agg #[.int .u32 h1, .int .i64 p1],.agg #[.int .u32 h2, .int .i64 p2],.int .i64 b3,.agg (sgCells s4),.int .i64 b5,.int .i64 b6,U,.pointer (some ⟨w.heap.size, 0, none⟩),.pointer (some ⟨qw1.heap.size, 0, none⟩),U,.pointer (some ⟨qw4.heap.size, 0, none⟩),U,U,.bool false,.int .i64 l,.pointer (some ⟨qn12, 0, none⟩),.bool b,.pointer (some ⟨qn16, 0, none⟩),.bool b,.int .i64 1,U,U,U,.agg (sgCells s4),.int .i64 1048576,.int .i64 l,.int .i64 l,.bool false,.tuple #[.agg (cnCells C), .bool b],.int .u32 b0,.agg #[.int .u32 h1, .int .i64 p1],.agg #[.int .u32 h1, .int .i64 p1],.agg #[.int .u32 h2, .int .i64 p2],.agg #[.int .u32 h2, .int .i64 p2],.int .i64 b3,.agg (sgCells s4),.agg (sgCells s4),.int .i64 b5,.int .i64 b6,.tuple #[.agg (cnCells C), .bool b],.agg (cnCells C),.bool b,.tuple #[.agg (cnCells C), .bool b],.int .u32 b0,.agg #[.int .u32 h1, .int .i64 p1],.agg #[.int .u32 h1, .int .i64 p1],.agg #[.int .u32 h2, .int .i64 p2],.agg #[.int .u32 h2, .int .i64 p2],.int .i64 b3,.agg (sgCells s4),.agg (sgCells s4),.int .i64 b5,.int .i64 b6,.tuple #[.agg (cnCells C), .bool b],.agg (cnCells C),.bool b,.agg (cnCells C),.agg (cnCells C),.bool true,.bool false,.bool false,.bool b,.bool b,.bool false,.bool false,.agg (cnCells C),.int .i64 1,.int .i64 1,U,U,U,U,U,U,U,U,U,U,U,U,U,U,U,U,U,U,U,U,U,U,U,U,U,U,U,U,U,U,U,U,U,U,U,U,U,U,U] ?_
  go_upto_region 12 with (fail)
  refine vR ?_
  refine vB cn_big qB19 (cn_size _) ?_
  refine vV (.int .i64 1) ?_
  refine vK (hh _) ?_
  intro qw24 qg25
  replace qB2 := qB2.since qg25
  replace qB5 := qB5.since qg25
  replace qB8 := qB8.since qg25
  replace qB15 := qB15.since qg25
  replace qB19 := qB19.since qg25
  replace E := E.since qg25
  replace G := G.trans qg25
  have qg25_s := qg25.size
  refine vV (.int .i64 1) ?_
  refine vE #[.int .u32 b0,.agg #[.int .u32 h1, .int .i64 p1],.agg #[.int .u32 h2, .int .i64 p2],.int .i64 b3,.agg (sgCells s4),.int .i64 b5,.int .i64 b6,U,.pointer (some ⟨w.heap.size, 0, none⟩),.pointer (some ⟨qw1.heap.size, 0, none⟩),U,.pointer (some ⟨qw4.heap.size, 0, none⟩),U,U,.bool false,.int .i64 l,.pointer (some ⟨qn12, 0, none⟩),.bool b,.pointer (some ⟨qn16, 0, none⟩),.bool b,.int .i64 1,.int .i64 1,U,U,.agg (sgCells s4),.int .i64 1048576,.int .i64 l,.int .i64 l,.bool false,.tuple #[.agg (cnCells C), .bool b],.int .u32 b0,.agg #[.int .u32 h1, .int .i64 p1],.agg #[.int .u32 h1, .int .i64 p1],.agg #[.int .u32 h2, .int .i64 p2],.agg #[.int .u32 h2, .int .i64 p2],.int .i64 b3,.agg (sgCells s4),.agg (sgCells s4),.int .i64 b5,.int .i64 b6,.tuple #[.agg (cnCells C), .bool b],.agg (cnCells C),.bool b,.tuple #[.agg (cnCells C), .bool b],.int .u32 b0,.agg #[.int .u32 h1, .int .i64 p1],.agg #[.int .u32 h1, .int .i64 p1],.agg #[.int .u32 h2, .int .i64 p2],.agg #[.int .u32 h2, .int .i64 p2],.int .i64 b3,.agg (sgCells s4),.agg (sgCells s4),.int .i64 b5,.int .i64 b6,.tuple #[.agg (cnCells C), .bool b],.agg (cnCells C),.bool b,.agg (cnCells C),.agg (cnCells C),.bool true,.bool false,.bool false,.bool b,.bool b,.bool false,.bool false,.agg (cnCells C),.int .i64 1,.int .i64 1,.agg (cnCells C),.int .i64 1,.int .i64 1,U,U,U,U,U,U,U,U,U,U,U,U,U,U,U,U,U,U,U,U,U,U,U,U,U,U,U,U,U,U,U,U,U,U,U,U] ?_
  go_upto_region 17 with (fail)
  refine wp_region_low (fun x y => x.heap.size ≤ y.heap.size) (fun i x v => match i with
      | 0 => v = .int .u32 b0
      | 1 => v = .agg #[.int .u32 h1, .int .i64 p1]
      | 2 => v = .agg #[.int .u32 h1, .int .i64 p1]
      | 3 => v = .agg #[.int .u32 h2, .int .i64 p2]
      | 4 => v = .agg #[.int .u32 h2, .int .i64 p2]
      | 5 => v = .int .i64 b3
      | 6 => v = .agg (sgCells s4)
      | 7 => v = .agg (sgCells s4)
      | 8 => v = .int .i64 b5
      | 9 => v = .int .i64 b6
      | 10 => v = .tuple #[.agg (cnCells C), .bool b]
      | 11 => v = .tuple #[.agg (cnCells C), .bool b]
      | 12 => v = .agg (cnCells C)
      | 13 => v = .bool b
      | 16 => v = .bool b
      | _ => True) (fun f vals x => Blk w.heap.size x #[.int .u32 h1, .int .i64 p1] ∧ Blk qw1.heap.size x #[.int .u32 h2, .int .i64 p2] ∧ Blk qw4.heap.size x (sgCells s4) ∧ Blk qn12 x (cnCells C) ∧ Blk qn16 x (cnCells C) ∧ Laid0 x ∧ qw24.heap.size ≤ x.heap.size ∧ Since w x ∧ (f 15 = true → f 14 = true) ∧ (f 14 = true → ∃ n, vals 14 = .pointer (some ⟨n, 0, none⟩) ∧ qw24.heap.size ≤ n ∧ Blk n x (if f 15 then (cnCells C) else (cnCells cnZero)))) (fun v => { tmps := #[.int .u32 b0, .agg #[.int .u32 h1, .int .i64 p1], .agg #[.int .u32 h2, .int .i64 p2], .int .i64 b3, .agg (sgCells s4), .int .i64 b5, .int .i64 b6, undef, .pointer (some ⟨w.heap.size, 0, none⟩), .pointer (some ⟨qw1.heap.size, 0, none⟩), undef, .pointer (some ⟨qw4.heap.size, 0, none⟩), undef, undef, .bool false, .int .i64 l, .pointer (some ⟨qn12, 0, none⟩), .bool b, .pointer (some ⟨qn16, 0, none⟩), .bool b, .int .i64 1, .int .i64 1, v 14, v 16, .agg (sgCells s4), .int .i64 1048576, .int .i64 l, .int .i64 l, .bool false, .tuple #[.agg (cnCells C), .bool b], .int .u32 b0, .agg #[.int .u32 h1, .int .i64 p1], .agg #[.int .u32 h1, .int .i64 p1], .agg #[.int .u32 h2, .int .i64 p2], .agg #[.int .u32 h2, .int .i64 p2], .int .i64 b3, .agg (sgCells s4), .agg (sgCells s4), .int .i64 b5, .int .i64 b6, .tuple #[.agg (cnCells C), .bool b], .agg (cnCells C), .bool b, .tuple #[.agg (cnCells C), .bool b], .int .u32 b0, .agg #[.int .u32 h1, .int .i64 p1], .agg #[.int .u32 h1, .int .i64 p1], .agg #[.int .u32 h2, .int .i64 p2], .agg #[.int .u32 h2, .int .i64 p2], .int .i64 b3, .agg (sgCells s4), .agg (sgCells s4), .int .i64 b5, .int .i64 b6, .tuple #[.agg (cnCells C), .bool b], .agg (cnCells C), .bool b, .agg (cnCells C), .agg (cnCells C), .bool true, .bool false, .bool false, .bool b, .bool b, .bool false, .bool false, .agg (cnCells C), .int .i64 1, .int .i64 1, .agg (cnCells C), .int .i64 1, .int .i64 1, .int .i64 1, .bool false, .int .i64 1, .int .i64 1, .bool false, v 11, v 0, v 1, v 2, v 3, v 4, v 5, v 6, v 7, v 8, v 9, v 10, v 12, v 13, undef, undef, undef, undef, undef, undef, undef, undef, undef, undef, undef, undef, undef, undef, undef, undef, undef], defers := [] }) (by kernel_rfl) (by kernel_rfl) ?_ ?_ (fun vals => by kernel_rfl) ?_ ?_
  case refine_1 =>
    intro j x y v hl hv
    match j, hv with
    | 0, hv | 1, hv | 2, hv | 3, hv | 4, hv | 5, hv | 6, hv | 7, hv | 8, hv | 9, hv | 10, hv | 11, hv | 12, hv | 13, hv | 16, hv => exact hv
    | 14, hv | 15, hv => trivial
    | n + 17, _ => trivial
  case refine_2 =>
    intro f vals hf
    refine ⟨qB2.since ((Since.refl _).drew), qB5.since ((Since.refl _).drew), qB8.since ((Since.refl _).drew), qB15.since ((Since.refl _).drew), qB19.since ((Since.refl _).drew), E.since ((Since.refl _).drew), ((Since.refl _).drew).size, G.trans ((Since.refl _).drew), (fun h => by rw [hf] at h; cases h), (fun h => by rw [hf] at h; cases h)⟩
  case refine_3 =>
    repeat (first | exact eachLow_nil | refine eachLow_cons ?_ ?_)
    all_goals intro f vals x hf hr hK
    all_goals obtain ⟨k0, k1, k2, k3, k4, k5, k6, k7, k8, k9⟩ := hK
    · skip
      have e13 : vals 13 = .bool b := (hr ⟨13, .data⟩ (by simp) rfl).2
      exact does_valT (.bool b) x (by simp only [e13]; kernel_rfl) ⟨Nat.le_refl _, ⟨k0, k1, k2, k3, k4, k5, k6, k7, k8, k9⟩, rfl⟩
    · have fa : f 14 = true := (hr ⟨14, .data⟩ (by simp) rfl).1
      have e12 : vals 12 = .agg (cnCells C) := (hr ⟨12, .data⟩ (by simp) rfl).2
      obtain ⟨n, en, ln, Bn⟩ := k9 fa
      rw [hf] at Bn
      refine does_store cn_big (cn_size _) (Raw.of Bn (cn_size _)) (cn_one _) _ _ rfl en e12 ?_
      intro z t B
      exact ⟨t.size, ⟨k0.touch t (by omega), k1.touch t (by omega), k2.touch t (by omega), k3.touch t (by omega), k4.touch t (by omega), k5.touch t (by omega), Nat.le_trans k6 t.size, since_touch k7 t (by omega), fun _ => fa, fun _ => ⟨n, en, ln, B⟩⟩, trivial⟩
    · have h1 := (Since.refl x).alloc (.cells (cnCells cnZero) 46)
      have hq : f 15 = false := by
        cases e : f 15 with
        | false => rfl
        | true => rw [k8 e] at hf; cases hf
      exact does_valT (.pointer (some ⟨x.heap.size, 0, none⟩)) (x.alloc (.cells (cnCells cnZero) 46)) (by kernel_rfl) ⟨h1.size, ⟨k0.since h1, k1.since h1, k2.since h1, k3.since h1, k4.since h1, k5.since h1, Nat.le_trans k6 h1.size, k7.trans h1, fun _ => rfl, fun _ => ⟨x.heap.size, rfl, k6, by rw [show andDone f 14 15 = f 15 from rfl, hq]; exact Blk.new x (cnCells cnZero) 46⟩⟩, trivial⟩
    · skip
      have e11 : vals 11 = .tuple #[.agg (cnCells C), .bool b] := (hr ⟨11, .data⟩ (by simp) rfl).2
      exact does_valT (.bool b) x (by simp only [e11]; kernel_rfl) ⟨Nat.le_refl _, ⟨k0, k1, k2, k3, k4, k5, k6, k7, k8, k9⟩, rfl⟩
    · skip
      have e11 : vals 11 = .tuple #[.agg (cnCells C), .bool b] := (hr ⟨11, .data⟩ (by simp) rfl).2
      exact does_valT (.agg (cnCells C)) x (by simp only [e11]; kernel_rfl) ⟨Nat.le_refl _, ⟨k0, k1, k2, k3, k4, k5, k6, k7, k8, k9⟩, rfl⟩
    · skip
      have e10 : vals 10 = .tuple #[.agg (cnCells C), .bool b] := (hr ⟨10, .data⟩ (by simp) rfl).2
      exact does_valT (.tuple #[.agg (cnCells C), .bool b]) x (by simp only [e10]; kernel_rfl) ⟨Nat.le_refl _, ⟨k0, k1, k2, k3, k4, k5, k6, k7, k8, k9⟩, rfl⟩
    · skip
      have e0 : vals 0 = .int .u32 b0 := (hr ⟨0, .data⟩ (by simp) rfl).2
      have e2 : vals 2 = .agg #[.int .u32 h1, .int .i64 p1] := (hr ⟨2, .data⟩ (by simp) rfl).2
      have e4 : vals 4 = .agg #[.int .u32 h2, .int .i64 p2] := (hr ⟨4, .data⟩ (by simp) rfl).2
      have e5 : vals 5 = .int .i64 b3 := (hr ⟨5, .data⟩ (by simp) rfl).2
      have e7 : vals 7 = .agg (sgCells s4) := (hr ⟨7, .data⟩ (by simp) rfl).2
      have e8 : vals 8 = .int .i64 b5 := (hr ⟨8, .data⟩ (by simp) rfl).2
      have e9 : vals 9 = .int .i64 b6 := (hr ⟨9, .data⟩ (by simp) rfl).2
      simp [does, doesUpon, go_sem, e0, e2, e4, e5, e7, e8, e9]
      refine (hi _ k5).mono ?_
      rintro _ x' ⟨rfl, h1⟩
      exact ⟨_, rfl, h1.size, ⟨k0.since h1, k1.since h1, k2.since h1, k3.since h1, k4.since h1, k5.since h1, Nat.le_trans k6 h1.size, k7.trans h1, k8, fun h => by obtain ⟨n, en, ln, Bn⟩ := k9 h; exact ⟨n, en, ln, Bn.since h1⟩⟩, rfl⟩
    · skip
      exact does_valT (.int .i64 b6) x (by kernel_rfl) ⟨Nat.le_refl _, ⟨k0, k1, k2, k3, k4, k5, k6, k7, k8, k9⟩, rfl⟩
    · skip
      exact does_valT (.int .i64 b5) x (by kernel_rfl) ⟨Nat.le_refl _, ⟨k0, k1, k2, k3, k4, k5, k6, k7, k8, k9⟩, rfl⟩
    · skip
      have e6 : vals 6 = .agg (sgCells s4) := (hr ⟨6, .data⟩ (by simp) rfl).2
      simp [does, doesUpon, go_sem, e6]
      refine (ht _).mono ?_
      rintro _ x' ⟨rfl, h1⟩
      exact ⟨_, rfl, h1.size, ⟨k0.since h1, k1.since h1, k2.since h1, k3.since h1, k4.since h1, k5.since h1, Nat.le_trans k6 h1.size, k7.trans h1, k8, fun h => by obtain ⟨n, en, ln, Bn⟩ := k9 h; exact ⟨n, en, ln, Bn.since h1⟩⟩, rfl⟩
    · exact does_load lsg_big rfl k2 _ rfl rfl ⟨Nat.le_refl _, ⟨k0, k1, k2, k3, k4, k5, k6, k7, k8, k9⟩, rfl⟩
    · skip
      exact does_valT (.int .i64 b3) x (by kernel_rfl) ⟨Nat.le_refl _, ⟨k0, k1, k2, k3, k4, k5, k6, k7, k8, k9⟩, rfl⟩
    · skip
      have e3 : vals 3 = .agg #[.int .u32 h2, .int .i64 p2] := (hr ⟨3, .data⟩ (by simp) rfl).2
      simp [does, doesUpon, go_sem, e3]
      refine (tb _).mono ?_
      rintro _ x' ⟨rfl, h1⟩
      exact ⟨_, rfl, h1.size, ⟨k0.since h1, k1.since h1, k2.since h1, k3.since h1, k4.since h1, k5.since h1, Nat.le_trans k6 h1.size, k7.trans h1, k8, fun h => by obtain ⟨n, en, ln, Bn⟩ := k9 h; exact ⟨n, en, ln, Bn.since h1⟩⟩, rfl⟩
    · exact does_load lad_big rfl k1 _ rfl rfl ⟨Nat.le_refl _, ⟨k0, k1, k2, k3, k4, k5, k6, k7, k8, k9⟩, rfl⟩
    · skip
      have e1 : vals 1 = .agg #[.int .u32 h1, .int .i64 p1] := (hr ⟨1, .data⟩ (by simp) rfl).2
      simp [does, doesUpon, go_sem, e1]
      refine (ta _).mono ?_
      rintro _ x' ⟨rfl, h1⟩
      exact ⟨_, rfl, h1.size, ⟨k0.since h1, k1.since h1, k2.since h1, k3.since h1, k4.since h1, k5.since h1, Nat.le_trans k6 h1.size, k7.trans h1, k8, fun h => by obtain ⟨n, en, ln, Bn⟩ := k9 h; exact ⟨n, en, ln, Bn.since h1⟩⟩, rfl⟩
    · exact does_load lad_big rfl k0 _ rfl rfl ⟨Nat.le_refl _, ⟨k0, k1, k2, k3, k4, k5, k6, k7, k8, k9⟩, rfl⟩
    · skip
      exact does_valT (.int .u32 b0) x (by kernel_rfl) ⟨Nat.le_refl _, ⟨k0, k1, k2, k3, k4, k5, k6, k7, k8, k9⟩, rfl⟩
  intro f qv28 qw27 hK hf hv
  obtain ⟨k0, k1, k2, k3, k4, k5, k6, k7, k8, k9⟩ := hK
  clear qB2 qB5 qB8 qB15 qB19 E G
  obtain ⟨qn26, hv14, qn26_l, qB29⟩ := k9 (hf 14 (by decide))
  rw [hf 15 (by decide)] at qB29
  replace qB29 : Blk qn26 qw27 (cnCells C) := qB29
  clear k9 k8
  have hv0 : qv28 0 = _ := hv 0 (by decide)
  have hv1 : qv28 1 = _ := hv 1 (by decide)
  have hv2 : qv28 2 = _ := hv 2 (by decide)
  have hv3 : qv28 3 = _ := hv 3 (by decide)
  have hv4 : qv28 4 = _ := hv 4 (by decide)
  have hv5 : qv28 5 = _ := hv 5 (by decide)
  have hv6 : qv28 6 = _ := hv 6 (by decide)
  have hv7 : qv28 7 = _ := hv 7 (by decide)
  have hv8 : qv28 8 = _ := hv 8 (by decide)
  have hv9 : qv28 9 = _ := hv 9 (by decide)
  have hv10 : qv28 10 = _ := hv 10 (by decide)
  have hv11 : qv28 11 = _ := hv 11 (by decide)
  have hv12 : qv28 12 = _ := hv 12 (by decide)
  have hv13 : qv28 13 = _ := hv 13 (by decide)
  have hv16 : qv28 16 = _ := hv 16 (by decide)
  clear hv hf
  simp only [hv0, hv1, hv2, hv3, hv4, hv5, hv6, hv7, hv8, hv9, hv10, hv11, hv12, hv13, hv16, hv14]
  clear hv0 hv1 hv2 hv3 hv4 hv5 hv6 hv7 hv8 hv9 hv10 hv11 hv12 hv13 hv16 hv14
  have qB2 := k0
  clear k0
  have qB5 := k1
  clear k1
  have qB8 := k2
  clear k2
  have qB15 := k3
  clear k3
  have qB19 := k4
  clear k4
  have E := k5
  clear k5
  have G := k7
  clear k7
  have qw27_l := k6
  clear k6
  have qB29_l := qB29.lt
  go_upto_region 18 with (fail)
  refine vR ?_
  refine vB cn_big qB29 (cn_size _) ?_
  refine vB cn_big qB15 (cn_size _) ?_
  refine vK (he _) ?_
  intro qw30 qg31
  replace qB2 := qB2.since qg31
  replace qB5 := qB5.since qg31
  replace qB8 := qB8.since qg31
  replace qB15 := qB15.since qg31
  replace qB19 := qB19.since qg31
  replace qB29 := qB29.since qg31
  replace E := E.since qg31
  replace G := G.trans qg31
  have qg31_s := qg31.size
  refine vV (.bool false) ?_
  refine vV (.bool false) ?_
  refine vV (.bool b) ?_
  refine vV (.bool b) ?_
  refine vV (.bool false) ?_ (hrun := by simp [execOp, go_sem])
  refine vV (.bool false) ?_
  refine vE #[.int .u32 b0,.agg #[.int .u32 h1, .int .i64 p1],.agg #[.int .u32 h2, .int .i64 p2],.int .i64 b3,.agg (sgCells s4),.int .i64 b5,.int .i64 b6,U,.pointer (some ⟨w.heap.size, 0, none⟩),.pointer (some ⟨qw1.heap.size, 0, none⟩),U,.pointer (some ⟨qw4.heap.size, 0, none⟩),U,U,.bool false,.int .i64 l,.pointer (some ⟨qn12, 0, none⟩),.bool b,.pointer (some ⟨qn16, 0, none⟩),.bool b,.int .i64 1,.int .i64 1,.pointer (some ⟨qn26, 0, none⟩),.bool b,.agg (sgCells s4),.int .i64 1048576,.int .i64 l,.int .i64 l,.bool false,.tuple #[.agg (cnCells C), .bool b],.int .u32 b0,.agg #[.int .u32 h1, .int .i64 p1],.agg #[.int .u32 h1, .int .i64 p1],.agg #[.int .u32 h2, .int .i64 p2],.agg #[.int .u32 h2, .int .i64 p2],.int .i64 b3,.agg (sgCells s4),.agg (sgCells s4),.int .i64 b5,.int .i64 b6,.tuple #[.agg (cnCells C), .bool b],.agg (cnCells C),.bool b,.tuple #[.agg (cnCells C), .bool b],.int .u32 b0,.agg #[.int .u32 h1, .int .i64 p1],.agg #[.int .u32 h1, .int .i64 p1],.agg #[.int .u32 h2, .int .i64 p2],.agg #[.int .u32 h2, .int .i64 p2],.int .i64 b3,.agg (sgCells s4),.agg (sgCells s4),.int .i64 b5,.int .i64 b6,.tuple #[.agg (cnCells C), .bool b],.agg (cnCells C),.bool b,.agg (cnCells C),.agg (cnCells C),.bool true,.bool false,.bool false,.bool b,.bool b,.bool false,.bool false,.agg (cnCells C),.int .i64 1,.int .i64 1,.agg (cnCells C),.int .i64 1,.int .i64 1,.int .i64 1,.bool false,.int .i64 1,.int .i64 1,.bool false,.tuple #[.agg (cnCells C), .bool b],.int .u32 b0,.agg #[.int .u32 h1, .int .i64 p1],.agg #[.int .u32 h1, .int .i64 p1],.agg #[.int .u32 h2, .int .i64 p2],.agg #[.int .u32 h2, .int .i64 p2],.int .i64 b3,.agg (sgCells s4),.agg (sgCells s4),.int .i64 b5,.int .i64 b6,.tuple #[.agg (cnCells C), .bool b],.agg (cnCells C),.bool b,.agg (cnCells C),.agg (cnCells C),.bool true,.bool false,.bool false,.bool b,.bool b,.bool false,.bool false,U,U,U,U,U,U,U,U] ?_
  go_upto_region 21 with (fail)
  refine vR ?_
  refine vB cn_big qB19 (cn_size _) ?_
  refine vV (.int .i64 1) ?_
  refine vK (hh _) ?_
  intro qw32 qg33
  replace qB2 := qB2.since qg33
  replace qB5 := qB5.since qg33
  replace qB8 := qB8.since qg33
  replace qB15 := qB15.since qg33
  replace qB19 := qB19.since qg33
  replace qB29 := qB29.since qg33
  replace E := E.since qg33
  replace G := G.trans qg33
  have qg33_s := qg33.size
  refine vV (.int .i64 1) ?_
  refine vE #[.int .u32 b0,.agg #[.int .u32 h1, .int .i64 p1],.agg #[.int .u32 h2, .int .i64 p2],.int .i64 b3,.agg (sgCells s4),.int .i64 b5,.int .i64 b6,U,.pointer (some ⟨w.heap.size, 0, none⟩),.pointer (some ⟨qw1.heap.size, 0, none⟩),U,.pointer (some ⟨qw4.heap.size, 0, none⟩),U,U,.bool false,.int .i64 l,.pointer (some ⟨qn12, 0, none⟩),.bool b,.pointer (some ⟨qn16, 0, none⟩),.bool b,.int .i64 1,.int .i64 1,.pointer (some ⟨qn26, 0, none⟩),.bool b,.agg (sgCells s4),.int .i64 1048576,.int .i64 l,.int .i64 l,.bool false,.tuple #[.agg (cnCells C), .bool b],.int .u32 b0,.agg #[.int .u32 h1, .int .i64 p1],.agg #[.int .u32 h1, .int .i64 p1],.agg #[.int .u32 h2, .int .i64 p2],.agg #[.int .u32 h2, .int .i64 p2],.int .i64 b3,.agg (sgCells s4),.agg (sgCells s4),.int .i64 b5,.int .i64 b6,.tuple #[.agg (cnCells C), .bool b],.agg (cnCells C),.bool b,.tuple #[.agg (cnCells C), .bool b],.int .u32 b0,.agg #[.int .u32 h1, .int .i64 p1],.agg #[.int .u32 h1, .int .i64 p1],.agg #[.int .u32 h2, .int .i64 p2],.agg #[.int .u32 h2, .int .i64 p2],.int .i64 b3,.agg (sgCells s4),.agg (sgCells s4),.int .i64 b5,.int .i64 b6,.tuple #[.agg (cnCells C), .bool b],.agg (cnCells C),.bool b,.agg (cnCells C),.agg (cnCells C),.bool true,.bool false,.bool false,.bool b,.bool b,.bool false,.bool false,.agg (cnCells C),.int .i64 1,.int .i64 1,.agg (cnCells C),.int .i64 1,.int .i64 1,.int .i64 1,.bool false,.int .i64 1,.int .i64 1,.bool false,.tuple #[.agg (cnCells C), .bool b],.int .u32 b0,.agg #[.int .u32 h1, .int .i64 p1],.agg #[.int .u32 h1, .int .i64 p1],.agg #[.int .u32 h2, .int .i64 p2],.agg #[.int .u32 h2, .int .i64 p2],.int .i64 b3,.agg (sgCells s4),.agg (sgCells s4),.int .i64 b5,.int .i64 b6,.tuple #[.agg (cnCells C), .bool b],.agg (cnCells C),.bool b,.agg (cnCells C),.agg (cnCells C),.bool true,.bool false,.bool false,.bool b,.bool b,.bool false,.bool false,.agg (cnCells C),.int .i64 1,.int .i64 1,U,U,U,U,U] ?_
  go_wp2_with (fail)
  go_ret
  exact ⟨rfl, G⟩

theorem et : Tryd.prog.globalNamed "errors.errorType" = some 1 := by kernel_rfl
theorem rt : (Tryd.prog.cutTypes.find? (·.1 == "internal/reflectlite.rtype")).map (·.2) = some 112 := by kernel_rfl
theorem oneRow : ((List.range 158).filter fun t => Tryd.prog.rowNamed t [101, 114, 114, 111, 114]) = [57] := by kernel_rfl
theorem tsize : Tryd.prog.types.size = 158 := by kernel_rfl

theorem handle_of_laid {W : World} (h : laidMetH Tryd.prog Rows.fnExactTakeCookieRow.laid W) : Laid0 W := by
  have h' : laidMet Tryd.prog [] W ∧ handlesMet Tryd.prog Rows.fnExactTakeCookieRow.laid W := h
  obtain ⟨name, u, ty, e1, e2, e3, e4, e5⟩ := h'.2 _ (List.mem_singleton.2 rfl)
  have en : name = [101, 114, 114, 111, 114] := (Option.some.inj e1).symm
  subst en
  obtain rfl := Option.some.inj (rt.symm.trans e2)
  have hm : ty ∈ (List.range 158).filter fun t => Tryd.prog.rowNamed t [101, 114, 114, 111, 114] := List.mem_filter.2 ⟨List.mem_range.2 (by rw [← tsize]; exact e3), e4⟩
  rw [oneRow] at hm
  obtain rfl := List.mem_singleton.1 hm
  have hh : typeHandle Tryd.prog 57 = .pointer (some ⟨2, 57, none⟩) := by kernel_rfl
  rw [hh] at e5
  exact ⟨by simpa using World.var?_cell et e5 0⟩

set_option maxRecDepth 20000 in
theorem contract (H : Type) (enc : TypeId × Value → H) (W : World) (base : Nat) (args : Array Value) (ds gs : List (DataW H)) (before : List MemPlace)
    (hval : ∀ (j : Nat) t v, Tryd.f4.params[j]? = some t → args[j]? = some v → Value.okWide Tryd.prog W .any base t v)
    (hW : DataW.Whole enc Tryd.prog Tryd.f4.params.toList Rows.fnExactTakeCookieSpec.vars false W args.toList ds gs before) (hL : laidMetH Tryd.prog Rows.fnExactTakeCookieRow.laid W) :
    Calls Tryd.prog 4 args W fun e W' => ∃ v, e = .returned v ∧ Rows.fnExactTakeCookieSpec.post enc Tryd.prog Tryd.f4 false true false false W args v W' := by
  have hW' := hW
  obtain ⟨p, q, hA0, hV, rfl, hfz, hnd⟩ := hW
  have hA : DataW.TrodAll enc Tryd.prog W 0 (fun _ => true) true Tryd.f4.params.toList args.toList ds p := hA0
  rw [Tryd.params4] at hA hval
  obtain ⟨v0, vs0, d0, ds0, p0, q0, hargs, rfl, rfl, h0, r0⟩ := trodAll_cons hA
  obtain ⟨v1, vs1, d1, ds1, p1, q1, rfl, rfl, rfl, h1, r1⟩ := trodAll_cons r0
  obtain ⟨v2, vs2, d2, ds2, p2, q2, rfl, rfl, rfl, h2, r2⟩ := trodAll_cons r1
  obtain ⟨v3, vs3, d3, ds3, p3, q3, rfl, rfl, rfl, h3, r3⟩ := trodAll_cons r2
  obtain ⟨v4, vs4, d4, ds4, p4, q4, rfl, rfl, rfl, h4, r4⟩ := trodAll_cons r3
  obtain ⟨v5, vs5, d5, ds5, p5, q5, rfl, rfl, rfl, h5, r5⟩ := trodAll_cons r4
  obtain ⟨v6, vs6, d6, ds6, p6, q6, rfl, rfl, rfl, h6, r6⟩ := trodAll_cons r5
  obtain ⟨rfl, rfl, rfl⟩ := trodAll_nil r6
  obtain rfl : args = #[v0, v1, v2, v3, v4, v5, v6] := by cases args; simp_all
  obtain ⟨rfl, rfl⟩ := trodVars_none hV
  have e0 := h0
  have lt0 : ∀ x ∈ p0, x.block < W.heap.size := by obtain ⟨m, hm⟩ := e0; exact DataW.trod_lt m _ _ _ hm
  have e1 := h1
  have lt1 : ∀ x ∈ p1, x.block < W.heap.size := by obtain ⟨m, hm⟩ := e1; exact DataW.trod_lt m _ _ _ hm
  have e2 := h2
  have lt2 : ∀ x ∈ p2, x.block < W.heap.size := by obtain ⟨m, hm⟩ := e2; exact DataW.trod_lt m _ _ _ hm
  have e3 := h3
  have lt3 : ∀ x ∈ p3, x.block < W.heap.size := by obtain ⟨m, hm⟩ := e3; exact DataW.trod_lt m _ _ _ hm
  have e4 := h4
  have lt4 : ∀ x ∈ p4, x.block < W.heap.size := by obtain ⟨m, hm⟩ := e4; exact DataW.trod_lt m _ _ _ hm
  have e5 := h5
  have lt5 : ∀ x ∈ p5, x.block < W.heap.size := by obtain ⟨m, hm⟩ := e5; exact DataW.trod_lt m _ _ _ hm
  have e6 := h6
  have lt6 : ∀ x ∈ p6, x.block < W.heap.size := by obtain ⟨m, hm⟩ := e6; exact DataW.trod_lt m _ _ _ hm
  obtain ⟨b0, rfl, _, _, x0⟩ := open_int Tryd.underlying22 (hval 0 22 v0 rfl rfl) h0
  obtain ⟨hv1, pv1, rfl, x1, y1⟩ := open_addr (hval 1 24 v1 rfl rfl) h1
  obtain ⟨hv2, pv2, rfl, x2, y2⟩ := open_addr (hval 2 24 v2 rfl rfl) h2
  obtain ⟨b3, rfl, _, _, x3⟩ := open_int Tryd.underlying3 (hval 3 3 v3 rfl rfl) h3
  obtain ⟨sv4, rfl, u4⟩ := open_seg (hval 4 26 v4 rfl rfl) h4
  obtain ⟨b5, rfl, _, _, x5⟩ := open_int Tryd.underlying3 (hval 5 3 v5 rfl rfl) h5
  obtain ⟨b6, rfl, _, _, x6⟩ := open_int Tryd.underlying3 (hval 6 3 v6 rfl rfl) h6
  clear hA0
  refine (walk b0 hv1 pv1 hv2 pv2 b3 sv4 b5 b6 W (handle_of_laid hL) x0 x1 y1 x2 y2 x3 u4 x5 x6).mono fun e W' ⟨he, bel⟩ => ?_
  subst he
  exact ⟨_, rfl, _, _, _, [], _, [], hW', trodAll_mk1 (shut_bool Tryd.underlying4 _), (trodAll_cons_mk (Below.trod laidOut (by kernel_rfl) (of_decide_eq_true (by kernel_rfl)) e0 bel lt0) (trodAll_cons_mk (Below.trod laidOut (by kernel_rfl) (of_decide_eq_true (by kernel_rfl)) e1 bel lt1) (trodAll_cons_mk (Below.trod laidOut (by kernel_rfl) (of_decide_eq_true (by kernel_rfl)) e2 bel lt2) (trodAll_cons_mk (Below.trod laidOut (by kernel_rfl) (of_decide_eq_true (by kernel_rfl)) e3 bel lt3) (trodAll_cons_mk (Below.trod laidOut (by kernel_rfl) (of_decide_eq_true (by kernel_rfl)) e4 bel lt4) (trodAll_cons_mk (Below.trod laidOut (by kernel_rfl) (of_decide_eq_true (by kernel_rfl)) e5 bel lt5) (trodAll_cons_mk (Below.trod laidOut (by kernel_rfl) (of_decide_eq_true (by kernel_rfl)) e6 bel lt6) trodAll_mk0))))))), rfl, bel.frame _, fun h => by cases h⟩

/-- A world for the witness: the settled one, the variable's cell laid. -/
noncomputable def laidWorld (os : Os) : World :=
  let w0 := World.holding Tryd.prog os ⟨#[], #[], []⟩
  { w0 with heap := w0.heap.modify 1 fun
      | .cells _ t frozen => .cells #[.iface 112 (.agg #[.pointer (some ⟨2, 57, none⟩)])] t frozen
      | o => o }
theorem laid_met (os : Os) : laidMetH Tryd.prog Rows.fnExactTakeCookieRow.laid ((laidWorld os).forCall (fun _ _ => 0) ⟨#[], #[.int .u32 0, .agg #[.int .u32 0, .int .i64 0], .agg #[.int .u32 0, .int .i64 0], .int .i64 0, .agg #[.int .i64 0, .int .i64 0, .int .u32 0, .int .u32 0, .int .i64 0, .int .i64 0, .int .i64 0, .string ByteArray.empty], .int .i64 0, .int .i64 0], []⟩).memory :=
  laidMetH_of_parts (laidMet_nil _ _) (by kernel_rfl)
theorem reads (os : Os) {H : Type} (enc : TypeId × Value → H) : ∃ places, DataW.whole enc Tryd.prog ((laidWorld os).forCall (fun _ _ => 0) ⟨#[], #[.int .u32 0, .agg #[.int .u32 0, .int .i64 0], .agg #[.int .u32 0, .int .i64 0], .int .i64 0, .agg #[.int .i64 0, .int .i64 0, .int .u32 0, .int .u32 0, .int .i64 0, .int .i64 0, .int .i64 0, .string ByteArray.empty], .int .i64 0, .int .i64 0], []⟩).memory Tryd.f4.params.toList Rows.fnExactTakeCookieSpec.vars false (#[.int .u32 0, .agg #[.int .u32 0, .int .i64 0], .agg #[.int .u32 0, .int .i64 0], .int .i64 0, .agg #[.int .i64 0, .int .i64 0, .int .u32 0, .int .u32 0, .int .i64 0, .int .i64 0, .int .i64 0, .string ByteArray.empty], .int .i64 0, .int .i64 0] : Array Value).toList 8 = some ([.lit (.int .u32 0), .agg [.lit (.int .u32 0), .lit (.int .i64 0)], .agg [.lit (.int .u32 0), .lit (.int .i64 0)], .lit (.int .i64 0), .agg [.lit (.int .i64 0), .lit (.int .i64 0), .lit (.int .u32 0), .lit (.int .u32 0), .lit (.int .i64 0), .lit (.int .i64 0), .lit (.int .i64 0), .lit (.string [])], .lit (.int .i64 0), .lit (.int .i64 0)], [], places) :=
  ⟨[], by kernel_rfl⟩

set_option maxRecDepth 100000 in
theorem lifted (os : Os) (started : os.Started) (H : Type) (enc : TypeId × Value → H) (F : Stop.Interp) :
    ReturnsInHanded {} Tryd.checked os 4 .any ((OpenSpec.ofChange Rows.fnExactTakeCookieSpec).preRow enc Tryd.prog Tryd.f4 Rows.fnExactTakeCookieRow.domain false Rows.fnExactTakeCookieRow.laid) (((OpenSpec.ofChange Rows.fnExactTakeCookieSpec).at F).post enc Tryd.prog Tryd.f4 false true false false) := by
  obtain ⟨places, hx⟩ := reads os enc
  refine returnsInHanded_of_row (C := Tryd.checked) (s := OpenSpec.ofChange Rows.fnExactTakeCookieSpec) own started (by kernel_rfl) Tryd.func4
    (witness_row_at (enc := enc) (C := Tryd.checked) false (laidWorld os) #[.int .u32 0, .agg #[.int .u32 0, .int .i64 0], .agg #[.int .u32 0, .int .i64 0], .int .i64 0, .agg #[.int .i64 0, .int .i64 0, .int .u32 0, .int .u32 0, .int .i64 0, .int .i64 0, .int .i64 0, .string ByteArray.empty], .int .i64 0, .int .i64 0] rfl (by kernel_rfl) (by kernel_rfl) (by kernel_rfl)
      (OpenSpec.preRow_of_cond 8 hx (by kernel_rfl) (fun k hk => by cases hk) (by kernel_rfl) (laid_met os))) ?_
  intro W base args ds gs before hval hW _ _ _ hL _ _
  exact contract H enc W base args ds gs before hval hW hL

theorem said : Rows.FnExactTakeCookieSaid :=
  OpenClaim.holds_of_cond 4 Tryd.f4 rfl rfl rfl rfl rfl rfl rfl ⟨rfl, rfl, rfl, rfl, rfl⟩ rfl rfl rfl rfl rfl (by kernel_rfl) Tryd.func4 (by kernel_rfl)
    (of_decide_eq_true (by kernel_rfl)) (by unfold Func.isWrapper; first | (rw [if_pos (by decide +kernel)]; kernel_rfl) | (rw [if_neg (by decide +kernel)]; exact ⟨rfl, rfl⟩))
    (fun os started H enc _ F => by rw [OpenClaim.pre_eq_preRow]; exact lifted os started H enc F)

/-- No parameter wants a stand-in: what the card asks. -/
theorem plain (f : FuncId) (fn : Func) (hf : Tryd.pinned.checked.prog.funcNamed "loop.example/g00107/laws.FnExactTakeCookie" = some f) (hfn : Tryd.pinned.checked.prog.funcs[f]? = some fn) :
    true = Tryd.pinned.checked.prog.looks [] ∧ ∀ (j : Nat) t, fn.params[j]? = some t → Tryd.pinned.checked.prog.wantsStandIn t = false := by
  obtain rfl : f = 4 := Option.some.inj ((show Tryd.prog.funcNamed "loop.example/g00107/laws.FnExactTakeCookie" = some 4 by kernel_rfl).symm.trans hf) |>.symm
  obtain rfl : fn = Tryd.f4 := (Option.some.inj (Tryd.func4.symm.trans hfn)).symm
  refine ⟨by kernel_rfl, fun j t ht => ?_⟩
  rw [Tryd.params4] at ht
  match j, ht with
  | 0, ht =>
    obtain rfl : 22 = t := by simpa using ht
    exact (show Tryd.prog.wantsStandIn 22 = false by kernel_rfl)
  | 1, ht =>
    obtain rfl : 24 = t := by simpa using ht
    exact (show Tryd.prog.wantsStandIn 24 = false by kernel_rfl)
  | 2, ht =>
    obtain rfl : 24 = t := by simpa using ht
    exact (show Tryd.prog.wantsStandIn 24 = false by kernel_rfl)
  | 3, ht =>
    obtain rfl : 3 = t := by simpa using ht
    exact (show Tryd.prog.wantsStandIn 3 = false by kernel_rfl)
  | 4, ht =>
    obtain rfl : 26 = t := by simpa using ht
    exact (show Tryd.prog.wantsStandIn 26 = false by kernel_rfl)
  | 5, ht =>
    obtain rfl : 3 = t := by simpa using ht
    exact (show Tryd.prog.wantsStandIn 3 = false by kernel_rfl)
  | 6, ht =>
    obtain rfl : 3 = t := by simpa using ht
    exact (show Tryd.prog.wantsStandIn 3 = false by kernel_rfl)
  | n + 7, ht => simp at ht

theorem card : Rows.FnExactTakeCookieCardSaid :=
  Claim7.holds_tied_plain_at .later [] _ _ _ _ said (fun _ h => by cases h) (by kernel_rfl) (fun _ h => by cases h) fnExactTakeCookie_row_tie rfl ⟨rfl, rfl⟩ (by kernel_rfl) rfl plain (by kernel_rfl)
end Go.Proofs.YtjilpicpfddbfabDoor.fnExactTakeCookie

namespace Go.Proofs.YtjilpicpfddbfabDoor
theorem fnExactTakeCookie_holds : Rows.FnExactTakeCookieCardSaid := fnExactTakeCookie.card
#print axioms fnExactTakeCookie_holds
end Go.Proofs.YtjilpicpfddbfabDoor
