/-
  What is due, as impl finds it; a probe that goes out.
-/
import Derived.Test.YtfenlfijfjcdbaaGreatM7
import Derived.Test.YtfenlfijfjcdbaaGreatM18
import Derived.Test.YtfenlfijfjcdbaaGreatM19
import Derived.Test.YtfenlfijfjcdbaaGreatM3
import Derived.Test.YtfenlfijfjcdbaaGreatStep
import Derived.Deep.DeepCutAuto
namespace Go.Proofs.YtfenlfijfjcdbaaGreat
open Go.ChangeShapes Go.WideShapes Go.ChangeAt Go.RowKit
set_option linter.unusedVariables false
set_option maxRecDepth 10000

def dueB (at' now : Int) : Bool := decide (at' ≠ 0) && decide (at' ≤ now)

set_option maxRecDepth 20000 in
set_option maxHeartbeats 8000000 in
theorem implIsDue (g : Nat) (d : Cn) (now : Int) (sv : Value) (at' : Int) (w : World) (A : Blk g w (actCells d now sv)) :
    Calls Tryz.prog 67 #[.pointer (some ⟨g, 0, none⟩), .int .i64 at'] w fun e w' => e = .returned (.bool (dueB at' now)) ∧ Since w w' := by
  obtain ⟨v, hv⟩ : ∃ q, Hid (q = dueB at' now) := ⟨_, rfl⟩
  rw [← hv.out]
  obtain ⟨bl, hl⟩ : ∃ q, Hid (q = decide (at' ≤ now)) := ⟨_, rfl⟩
  have G := Since.refl w
  go_enter Tryz.func67, Tryz.ntmps67
  go_upto_region 1 with (fail)
  by_cases hz0 : at' = 0
  case pos =>
    have hz : Hid ((at' != 0) = false) := by show (at' != 0) = false; simp [hz0]
    clear hz0
    refine vR ?_
    refine vV (.int .i64 at') ?_
    refine vV (.bool false) ?_ (hrun := by rw [show false = (at' != 0) from hz.out.symm]; kernel_rfl)
    refine vV (.bool false) ?_
    refine vS ?_
    refine vS ?_
    refine vS ?_
    refine vS ?_
    refine vS ?_
    refine vS ?_
    refine vV (.bool false) ?_
    refine vV (.bool false) ?_
    refine vE #[.pointer (some ⟨g, 0, none⟩),.int .i64 at',U,U,.bool false,.int .i64 at',.bool false,.bool false,U,U,U,U,U,U,.bool false] ?_
    go_wp2_with (fail)
    go_ret
    exact ⟨by rw [show v = false from hv.out.trans (by unfold dueB; rw [decide_eq_false (show ¬ at' ≠ 0 by simpa using hz.out)]; rfl)]; rfl, G⟩
  case neg =>
    have hz : Hid ((at' != 0) = true) := by show (at' != 0) = true; simpa using hz0
    clear hz0
    cases bl
    case false =>
      refine vR ?_
      refine vV (.int .i64 at') ?_
      refine vV (.bool true) ?_ (hrun := by rw [show true = (at' != 0) from hz.out.symm]; kernel_rfl)
      refine vV (.bool true) ?_
      refine vV (.int .i64 at') ?_
      refine vV (.pointer (some ⟨g, 0, none⟩)) ?_
      refine vV (.pointer (some ⟨g, 0, none⟩)) ?_
      refine vV (.pointer (some ⟨g, 37, none⟩)) ?_
      refine vD (.int .i64 now) (A.cell 37) ?_
      refine vV (.bool false) ?_ (hrun := by rw [show false = decide (at' ≤ now) from hl.out]; kernel_rfl)
      refine vV (.bool false) ?_
      refine vV (.bool false) ?_
      refine vE #[.pointer (some ⟨g, 0, none⟩),.int .i64 at',U,U,.bool false,.int .i64 at',.bool true,.bool true,.int .i64 at',.pointer (some ⟨g, 0, none⟩),.pointer (some ⟨g, 0, none⟩),.pointer (some ⟨g, 37, none⟩),.int .i64 now,.bool false,.bool false] ?_
      go_wp2_with (fail)
      go_ret
      exact ⟨by rw [show v = false from hv.out.trans (by unfold dueB; rw [decide_eq_true (show at' ≠ 0 by simpa using hz.out), ← hl.out]; rfl)]; rfl, G⟩
    case true =>
      refine vR ?_
      refine vV (.int .i64 at') ?_
      refine vV (.bool true) ?_ (hrun := by rw [show true = (at' != 0) from hz.out.symm]; kernel_rfl)
      refine vV (.bool true) ?_
      refine vV (.int .i64 at') ?_
      refine vV (.pointer (some ⟨g, 0, none⟩)) ?_
      refine vV (.pointer (some ⟨g, 0, none⟩)) ?_
      refine vV (.pointer (some ⟨g, 37, none⟩)) ?_
      refine vD (.int .i64 now) (A.cell 37) ?_
      refine vV (.bool true) ?_ (hrun := by rw [show true = decide (at' ≤ now) from hl.out]; kernel_rfl)
      refine vV (.bool true) ?_
      refine vV (.bool true) ?_
      refine vE #[.pointer (some ⟨g, 0, none⟩),.int .i64 at',U,U,.bool true,.int .i64 at',.bool true,.bool true,.int .i64 at',.pointer (some ⟨g, 0, none⟩),.pointer (some ⟨g, 0, none⟩),.pointer (some ⟨g, 37, none⟩),.int .i64 now,.bool true,.bool true] ?_
      go_wp2_with (fail)
      go_ret
      exact ⟨by rw [show v = true from hv.out.trans (by unfold dueB; rw [decide_eq_true (show at' ≠ 0 by simpa using hz.out), ← hl.out]; rfl)]; rfl, G⟩

theorem noText {d : ByteArray} (h : ¬ d = ByteArray.empty) : (d.toList == []) = false := by
  rw [beq_eq_false_iff_ne]
  intro e
  rw [ByteArray.toList_eq] at e
  refine h ?_
  obtain ⟨⟨l⟩⟩ := d
  simp at e
  subst e
  rfl

def npB (c : Cn) : Bool := decide (c.wnd = 0) && (decide (0 < leftC c) && !decide (c.oD = ByteArray.empty))

set_option maxRecDepth 20000 in
set_option maxHeartbeats 8000000 in
theorem implNeedsProbe (c : Cn) (hn : IsWord c.nxt) (w : World) :
    Calls Tryz.prog 83 #[.agg (cnCells c)] w fun e w' => e = .returned (.bool (npB c)) ∧ Since w w' := by
  have hlf := fun wx => implLeft c hn wx
  obtain ⟨v, hv⟩ : ∃ q, Hid (q = npB c) := ⟨_, rfl⟩
  rw [← hv.out]
  have hvv := hv.out
  unfold npB at hvv
  generalize leftC c = lf at hlf hvv
  replace hvv : Hid _ := hvv
  obtain ⟨b1, hb1⟩ : ∃ q, Hid (q = (c.wnd == 0)) := ⟨_, rfl⟩
  obtain ⟨b2, hb2⟩ : ∃ q, Hid (q = decide (0 < lf)) := ⟨_, rfl⟩
  have G := (Since.refl w).alloc (.cells (cnCells c) 42)
  have A := Blk.new w (cnCells c) 42
  go_enter Tryz.func83, Tryz.ntmps83
  go_upto_region 1 with (fail)
  generalize w.alloc (.cells (cnCells c) 42) = x0 at A G ⊢
  cases b1
  case false =>
    refine vR ?_
    refine vV (.pointer (some ⟨w.heap.size, 5, none⟩)) ?_
    refine vD (.int .i64 c.wnd) (A.cell 5) ?_
    refine vV (.bool false) ?_ (hrun := by rw [show false = (c.wnd == 0) from hb1.out]; kernel_rfl)
    refine vV (.bool false) ?_
    refine vS ?_
    refine vS ?_
    refine vS ?_
    refine vV (.bool false) ?_
    refine vV (.bool false) ?_
    refine vS ?_
    refine vS ?_
    refine vS ?_
    refine vS ?_
    refine vV (.bool false) ?_
    refine vV (.bool false) ?_
    refine vE #[.agg (cnCells c),.pointer (some ⟨w.heap.size, 0, none⟩),.bool false,.pointer (some ⟨w.heap.size, 5, none⟩),.int .i64 c.wnd,.bool false,.bool false,U,U,U,.bool false,.bool false,U,U,U,U,.bool false] ?_
    go_wp2_with (fail)
    go_ret
    exact ⟨by rw [show v = false from hvv.out.trans (by rw [decide_eq_false (show ¬ c.wnd = 0 by simpa using hb1.out.symm)]; rfl)]; rfl, G⟩
  case true =>
    cases b2
    case false =>
      refine vR ?_
      refine vV (.pointer (some ⟨w.heap.size, 5, none⟩)) ?_
      refine vD (.int .i64 c.wnd) (A.cell 5) ?_
      refine vV (.bool true) ?_ (hrun := by rw [show true = (c.wnd == 0) from hb1.out]; kernel_rfl)
      refine vV (.bool true) ?_
      refine vB cn_big A (cn_size _) ?_
      refine vK (hlf _) ?_
      intro qw1 qg2
      replace A := A.since qg2
      replace G := G.trans qg2
      have qg2_s := qg2.size
      refine vV (.bool false) ?_ (hrun := by rw [show false = decide (0 < lf) from hb2.out]; kernel_rfl)
      refine vV (.bool false) ?_
      refine vV (.bool false) ?_
      refine vS ?_
      refine vS ?_
      refine vS ?_
      refine vS ?_
      refine vV (.bool false) ?_
      refine vV (.bool false) ?_
      refine vE #[.agg (cnCells c),.pointer (some ⟨w.heap.size, 0, none⟩),.bool false,.pointer (some ⟨w.heap.size, 5, none⟩),.int .i64 c.wnd,.bool true,.bool true,.agg (cnCells c),.int .i64 lf,.bool false,.bool false,.bool false,U,U,U,U,.bool false] ?_
      go_wp2_with (fail)
      go_ret
      exact ⟨by rw [show v = false from hvv.out.trans (by rw [decide_eq_true (show c.wnd = 0 by simpa using hb1.out.symm), ← hb2.out]; rfl)]; rfl, G⟩
    case true =>
      by_cases he : c.oD = ByteArray.empty
      case pos =>
        have e0 : (c.oD.toList == []) = true := by rw [he, ByteArray.toList_eq]; rfl
        refine vR ?_
        refine vV (.pointer (some ⟨w.heap.size, 5, none⟩)) ?_
        refine vD (.int .i64 c.wnd) (A.cell 5) ?_
        refine vV (.bool true) ?_ (hrun := by rw [show true = (c.wnd == 0) from hb1.out]; kernel_rfl)
        refine vV (.bool true) ?_
        refine vB cn_big A (cn_size _) ?_
        refine vK (hlf _) ?_
        intro qw1 qg2
        replace A := A.since qg2
        replace G := G.trans qg2
        have qg2_s := qg2.size
        refine vV (.bool true) ?_ (hrun := by rw [show true = decide (0 < lf) from hb2.out]; kernel_rfl)
        refine vV (.bool true) ?_
        refine vV (.bool true) ?_
        refine vV (.pointer (some ⟨w.heap.size, 8, none⟩)) ?_
        refine vV (.pointer (some ⟨w.heap.size, 9, none⟩)) ?_
        refine vD (.string c.oD) (A.cell 9) ?_
        refine vV (.bool false) ?_ (hrun := by simp [execOp, go_sem, e0])
        refine vV (.bool false) ?_
        refine vV (.bool false) ?_
        refine vE #[.agg (cnCells c),.pointer (some ⟨w.heap.size, 0, none⟩),.bool false,.pointer (some ⟨w.heap.size, 5, none⟩),.int .i64 c.wnd,.bool true,.bool true,.agg (cnCells c),.int .i64 lf,.bool true,.bool true,.bool true,.pointer (some ⟨w.heap.size, 8, none⟩),.pointer (some ⟨w.heap.size, 9, none⟩),.string c.oD,.bool false,.bool false] ?_
        go_wp2_with (fail)
        go_ret
        exact ⟨by rw [show v = false from hvv.out.trans (by rw [decide_eq_true (show c.wnd = 0 by simpa using hb1.out.symm), ← hb2.out, decide_eq_true he]; rfl)]; rfl, G⟩
      case neg =>
        have e0 := noText he
        refine vR ?_
        refine vV (.pointer (some ⟨w.heap.size, 5, none⟩)) ?_
        refine vD (.int .i64 c.wnd) (A.cell 5) ?_
        refine vV (.bool true) ?_ (hrun := by rw [show true = (c.wnd == 0) from hb1.out]; kernel_rfl)
        refine vV (.bool true) ?_
        refine vB cn_big A (cn_size _) ?_
        refine vK (hlf _) ?_
        intro qw1 qg2
        replace A := A.since qg2
        replace G := G.trans qg2
        have qg2_s := qg2.size
        refine vV (.bool true) ?_ (hrun := by rw [show true = decide (0 < lf) from hb2.out]; kernel_rfl)
        refine vV (.bool true) ?_
        refine vV (.bool true) ?_
        refine vV (.pointer (some ⟨w.heap.size, 8, none⟩)) ?_
        refine vV (.pointer (some ⟨w.heap.size, 9, none⟩)) ?_
        refine vD (.string c.oD) (A.cell 9) ?_
        refine vV (.bool true) ?_ (hrun := by simp [execOp, go_sem, e0])
        refine vV (.bool true) ?_
        refine vV (.bool true) ?_
        refine vE #[.agg (cnCells c),.pointer (some ⟨w.heap.size, 0, none⟩),.bool true,.pointer (some ⟨w.heap.size, 5, none⟩),.int .i64 c.wnd,.bool true,.bool true,.agg (cnCells c),.int .i64 lf,.bool true,.bool true,.bool true,.pointer (some ⟨w.heap.size, 8, none⟩),.pointer (some ⟨w.heap.size, 9, none⟩),.string c.oD,.bool true,.bool true] ?_
        go_wp2_with (fail)
        go_ret
        exact ⟨by rw [show v = true from hvv.out.trans (by rw [decide_eq_true (show c.wnd = 0 by simpa using hb1.out.symm), ← hb2.out, decide_eq_false he]; rfl)]; rfl, G⟩

def uwN (c : Cn) : Int := min (distI c.una c.mx) 8000

set_option maxRecDepth 20000 in
set_option maxHeartbeats 8000000 in
theorem implUnderWay (c : Cn) (hu : IsWord c.una) (hm : IsWord c.mx) (w : World) :
    Calls Tryz.prog 91 #[.agg (cnCells c)] w fun e w' => e = .returned (.int .i64 (uwN c)) ∧ Since w w' := by
  have hd := fun wx => implDist c.una c.mx (distI c.una c.mx) hu hm (distI_is _ _) wx
  obtain ⟨uw, huw⟩ : ∃ q, Hid (q = min (distI c.una c.mx) 8000) := ⟨_, rfl⟩
  rw [show uwN c = uw from huw.out.symm]
  have G := (Since.refl w).alloc (.cells (cnCells c) 42)
  have A := Blk.new w (cnCells c) 42
  go_enter Tryz.func91, Tryz.ntmps91
  go_upto_region 1 with (fail)
  generalize w.alloc (.cells (cnCells c) 42) = x0 at A G ⊢
  refine vR ?_
  refine vV (.pointer (some ⟨w.heap.size, 2, none⟩)) ?_
  refine vD (.int .u32 c.una) (A.cell 2) ?_
  refine vV (.pointer (some ⟨w.heap.size, 4, none⟩)) ?_
  refine vD (.int .u32 c.mx) (A.cell 4) ?_
  refine vC (hd _) ?_
  rintro _ _ ⟨rfl, rfl⟩
  refine ⟨_, rfl, ?_⟩
  refine vV (.int .i64 uw) ?_ (hrun := by rw [huw.out]; simp [go_sem])
  refine vV (.int .i64 uw) ?_
  refine vE #[.agg (cnCells c),.pointer (some ⟨w.heap.size, 0, none⟩),.int .i64 uw,.pointer (some ⟨w.heap.size, 2, none⟩),.int .u32 c.una,.pointer (some ⟨w.heap.size, 4, none⟩),.int .u32 c.mx,.int .i64 (distI c.una c.mx),.int .i64 uw] ?_
  go_wp2_with (fail)
  go_ret
  exact ⟨rfl, G⟩

def pmxN (d : Cn) : Int := if 0 < distI d.mx ((d.una + 1) % 4294967296) then (d.una + 1) % 4294967296 else d.mx

def probeC (d : Cn) (now : Int) : Cn := { d with mx := pmxN d, tmg := false, rD := min (d.rD + 1) 8, prb := now + waitOf d.rA d.rS d.rV (min (d.rD + 1) 8) }

def probeSg (d : Cn) (ps : List (Int × ByteArray)) : Sg := ⟨0, 0, d.una, d.iN, 16, inRoomN d.iN d.iD d.iR ps, 0, takeT d.oF d.oD d.oR d.oF 1 (distI d.oF d.oF)⟩

def probeX (ps : List (Int × ByteArray)) (now : Int) (p : Cn × List Sg) : Cn × List Sg := if npB p.1 then (probeC p.1 now, p.2 ++ [probeSg p.1 ps]) else ({ p.1 with prb := 0 }, p.2)

set_option maxRecDepth 20000 in
set_option maxHeartbeats 8000000 in
theorem implProbe (B g pg : Nat) (now : Int) (ps : List (Int × ByteArray)) (d : Cn) (gs n cap : Nat) (xs : List Sg) (h0 : 0 ≤ now) (h1 : now ≤ 1000000000) (hn : n ≤ 200000) (w_nxt : IsWord d.nxt) (w_una : IsWord d.una) (w_mx : IsWord d.mx) (w_oF : IsWord d.oF) (hod : d.oD.size ≤ 1048576) (gd : Good d.iN d.iD d.iR d.pn ps) (hrt : rttOk d.rA d.rS d.rV d.rD = true) (w : World) (a : Acts B g pg now ps d gs n cap xs w) :
    Calls Tryz.prog 68 #[.pointer (some ⟨g, 0, none⟩)] w fun e w' => e = .returned (.tuple #[]) ∧ ActsX B g pg now ps ((probeX ps now (d, xs)).1) ((probeX ps now (d, xs)).2) w' ∧ Base B w w' := by
  obtain ⟨A, L, P, pa, lo, i, j, l⟩ := a
  have hA := A.lt
  have hL := L.lt
  have hLo := L.low'
  have hP := P.lt
  have hPo := P.low'
  have G : Base B w w := Base.refl (by omega)
  have hsf := fun wx Rx => implSegFrom d ps d.una gd wx Rx
  unfold fromSg at hsf
  obtain ⟨rm, hrm⟩ : ∃ q, Hid (q = inRoomN d.iN d.iD d.iR ps) := ⟨_, rfl⟩
  rw [← hrm.out] at hsf
  obtain ⟨tk, htke⟩ : ∃ q, Hid (q = takeT d.oF d.oD d.oR d.oF 1 (distI d.oF d.oF)) := ⟨_, rfl⟩
  have htk := fun wx => implOutTake d.oF d.oD d.oR d.oF 1 (distI d.oF d.oF) w_oF w_oF (distI_is _ _) hod (by unfold IsInt; omega) wx
  rw [← htke.out] at htk
  unfold outVal at htk
  have hps : Hid (probeSg d ps = ⟨0, 0, d.una, d.iN, 16, rm, 0, tk⟩) := by
    show probeSg d ps = _
    unfold probeSg
    rw [hrm.out, htke.out]
  have hnp := fun wx => implNeedsProbe d w_nxt wx
  obtain ⟨nb, hnb⟩ : ∃ q, Hid (q = npB d) := ⟨_, rfl⟩
  rw [← hnb.out] at hnp
  obtain ⟨un, hun⟩ : ∃ q, Hid (q = (d.una + 1) % 4294967296) := ⟨_, rfl⟩
  have hwr : Hid (IntKind.u32.wrap (d.una + 1) = un) := hun.out.symm
  have hmx := fun wx => implMax d.mx ((d.una + 1) % 4294967296) _ w_mx (isWord_mod _) (distI_is _ _) wx
  obtain ⟨mv, hmv⟩ : ∃ q, Hid (q = pmxN d) := ⟨_, rfl⟩
  have hme := hmv.out
  unfold pmxN at hme
  rw [← hme, ← hun.out] at hmx
  clear hme
  have hbk := fun wx => implBack d.rA d.rS d.rV d.rD wx
  rw [hrt, if_pos rfl] at hbk
  unfold rttVal at hbk
  obtain ⟨rd, hrd⟩ : ∃ q, Hid (q = min (d.rD + 1) 8) := ⟨_, rfl⟩
  rw [← hrd.out] at hbk
  have hX : Hid (probeX ps now (d, xs) = if nb then (probeC d now, xs ++ [probeSg d ps]) else ({ d with prb := 0 }, xs)) := by
    show probeX ps now (d, xs) = _
    unfold probeX
    rw [hnb.out]
  have hpc : Hid (probeC d now = { d with mx := mv, tmg := false, rD := rd, prb := now + waitOf d.rA d.rS d.rV rd }) := by
    show probeC d now = _
    unfold probeC
    rw [hmv.out, hrd.out]
  have hfn := fun (dd : Cn) sv' wx Ax => implFromNow g now dd sv' h0 h1 wx Ax
  go_enter Tryz.func68, Tryz.ntmps68
  go_upto_region 1 with (fail)
  cases nb
  case false =>
    rw [if_neg (by decide)] at hX
    refine vR ?_
    refine vV (.pointer (some ⟨g, 0, none⟩)) ?_
    refine vV (.pointer (some ⟨g, 0, none⟩)) ?_
    refine VL.mk (want_end A (by kernel_rfl) _ rfl (by kernel_rfl) (VL.out ?_))
    refine vK (hnp _) ?_
    intro qw1 qg2
    replace A := A.since qg2
    replace L := L.since qg2
    replace P := P.since qg2
    replace G := G.trans qg2
    have qg2_s := qg2.size
    refine vV (.bool true) ?_
    refine vE #[.pointer (some ⟨g, 0, none⟩),U,.pointer (some ⟨g, 0, none⟩),U,.pointer (some ⟨g, 0, none⟩),.pointer (some ⟨g, 0, none⟩),.pointer (some ⟨g, 0, none⟩),.pointer (some ⟨g, 0, none⟩),.pointer (some ⟨g, 0, none⟩),.agg (cnCells d),.bool false,.bool true,U,U,U,U,U,U,U,U,U,U,U,U,U,U,U,U,U,U,U,U,U,U,U,U,U,U,U,U,U,U,U,U,U,U,U,U,U,U,U,U,U,U,U,U,U,U,U,U,U,U,U,U,U,U,U] ?_
    go_upto_region 2 with (fail)
    refine vR ?_
    refine vV (.pointer (some ⟨g, 0, none⟩)) ?_
    refine vV (.pointer (some ⟨g, 0, none⟩)) ?_
    refine vV (.pointer (some ⟨g, 32, none⟩)) ?_
    refine sC (actCells { d with prb := 0 } now (.slice (some ⟨gs, 0, none⟩) n cap)) A 32 (.int .i64 0) (act_size _ _ _) ?_
    intro qw3 qt4 qB5
    clear A
    replace L := L.touch qt4 (by omega)
    replace P := P.touch qt4 (by omega)
    replace G := G.touch qt4 (by omega)
    have qt4_s := qt4.size
    refine vE #[.pointer (some ⟨g, 0, none⟩),U,.pointer (some ⟨g, 0, none⟩),U,.pointer (some ⟨g, 0, none⟩),.pointer (some ⟨g, 0, none⟩),.pointer (some ⟨g, 0, none⟩),.pointer (some ⟨g, 0, none⟩),.pointer (some ⟨g, 0, none⟩),.agg (cnCells d),.bool false,.bool true,.pointer (some ⟨g, 0, none⟩),.pointer (some ⟨g, 0, none⟩),.pointer (some ⟨g, 32, none⟩),U,U,U,U,U,U,U,U,U,U,U,U,U,U,U,U,U,U,U,U,U,U,U,U,U,U,U,U,U,U,U,U,U,U,U,U,U,U,U,U,U,U,U,U,U,U,U,U,U,U,U,U] ?_
    go_wp2_with (fail)
    refine bodyPost_ret (v := .tuple #[]) (results_none rfl _ _ _) rfl ⟨rfl, ?_, G⟩
    rw [hX.out]
    exact ⟨_, _, _, ⟨qB5, L, P, pa, lo, (by omega), (by omega), (by omega)⟩⟩
  case true =>
    rw [if_pos rfl] at hX
    refine vR ?_
    refine vV (.pointer (some ⟨g, 0, none⟩)) ?_
    refine vV (.pointer (some ⟨g, 0, none⟩)) ?_
    refine VL.mk (want_end A (by kernel_rfl) _ rfl (by kernel_rfl) (VL.out ?_))
    refine vK (hnp _) ?_
    intro qw1 qg2
    replace A := A.since qg2
    replace L := L.since qg2
    replace P := P.since qg2
    replace G := G.trans qg2
    have qg2_s := qg2.size
    refine vV (.bool false) ?_
    refine vE #[.pointer (some ⟨g, 0, none⟩),U,.pointer (some ⟨g, 0, none⟩),U,.pointer (some ⟨g, 0, none⟩),.pointer (some ⟨g, 0, none⟩),.pointer (some ⟨g, 0, none⟩),.pointer (some ⟨g, 0, none⟩),.pointer (some ⟨g, 0, none⟩),.agg (cnCells d),.bool true,.bool false,U,U,U,U,U,U,U,U,U,U,U,U,U,U,U,U,U,U,U,U,U,U,U,U,U,U,U,U,U,U,U,U,U,U,U,U,U,U,U,U,U,U,U,U,U,U,U,U,U,U,U,U,U,U,U] ?_
    go_upto_region 3 with (fail)
    refine wp_region_tail (wb := qw1) 9 (fun i x v => match i with
        | 0 => v = .pointer (some ⟨g, 0, none⟩)
        | 1 => v = .pointer (some ⟨g, 0, none⟩)
        | 2 => v = .agg (cnCells d)
        | 3 => v = .pointer (some ⟨g, 0, none⟩)
        | 4 => v = .pointer (some ⟨g, 0, none⟩)
        | 5 => v = .pointer (some ⟨g, 2, none⟩)
        | 6 => v = .int .u32 d.una
        | 7 => v = .agg (sgCells ⟨0, 0, d.una, d.iN, 16, rm, 0, ByteArray.empty⟩)
        | 8 => BoxB qw1.heap.size 8 x v
        | _ => True) (fun v => { tmps := #[.pointer (some ⟨g, 0, none⟩), undef, .pointer (some ⟨g, 0, none⟩), v 8, .pointer (some ⟨g, 0, none⟩), .pointer (some ⟨g, 0, none⟩), .pointer (some ⟨g, 0, none⟩), .pointer (some ⟨g, 0, none⟩), .pointer (some ⟨g, 0, none⟩), .agg (cnCells d), .bool true, .bool false, undef, undef, undef, v 0, v 1, v 2, v 3, v 4, v 5, v 6, v 7, undef, undef, undef, undef, undef, undef, undef, undef, undef, undef, undef, undef, undef, undef, undef, undef, undef, undef, undef, undef, undef, undef, undef, undef, undef, undef, undef, undef, undef, undef, undef, undef, undef, undef, undef, undef, undef, undef, undef, undef, undef, undef, undef, undef], defers := [] }) (by kernel_rfl) (by kernel_rfl) (by kernel_rfl) (Since.refl _) ?_ (fun vals => by kernel_rfl) ?_ ?_
    case refine_1 =>
      intro j x x' v h1 h2
      match j, h2 with
      | 0, h2 | 1, h2 | 2, h2 | 3, h2 | 4, h2 | 5, h2 | 6, h2 | 7, h2 => exact h2
      | 8, h2 => exact h2.since h1
      | n + 9, _ => trivial
    case refine_2 =>
      repeat (first | exact eachDoes_nil | refine eachDoes_cons ?_ ?_)
      all_goals intro vals x hx hv
      all_goals simp [Region.binds] at hv
      · simp [does, doesUpon, go_sem]
        exact ⟨(Since.refl _).alloc _, BoxB.new _ _ _ hx.size rfl⟩
      · simp [does, doesUpon, go_sem, hv]
        refine (hsf _ ((rd_of pa P).since hx)).mono ?_
        rintro _ x' ⟨rfl, h1⟩
        simp [h1]
      · have fl0 : x.cell? ⟨g, 2, none⟩ = some (.int .u32 d.una) := (A.since hx).cell 2
        simp [does, doesUpon, go_sem, hv, fl0, Since.refl]
      · simp [does, doesUpon, go_sem, hv, Since.refl]
      · simp [does, doesUpon, go_sem, hv, Since.refl]
      · simp [does, doesUpon, go_sem, Since.refl]
      · exact does_end (A.since hx) _ rfl hv ⟨Since.refl _, rfl⟩
      · simp [does, doesUpon, go_sem, hv, Since.refl]
      · simp [does, doesUpon, go_sem, Since.refl]
    case refine_3 =>
      intro qv6 qw4 qh5 hv
      have hv0 : qv6 0 = _ := hv 0 (by decide)
      have hv1 : qv6 1 = _ := hv 1 (by decide)
      have hv2 : qv6 2 = _ := hv 2 (by decide)
      have hv3 : qv6 3 = _ := hv 3 (by decide)
      have hv4 : qv6 4 = _ := hv 4 (by decide)
      have hv5 : qv6 5 = _ := hv 5 (by decide)
      have hv6 : qv6 6 = _ := hv 6 (by decide)
      have hv7 : qv6 7 = _ := hv 7 (by decide)
      obtain ⟨qx3, hv8, qx3_l, qx3_c, qx3_z, qx3_B⟩ := hv 8 (by decide)
      clear hv
      simp only [hv0, hv1, hv2, hv3, hv4, hv5, hv6, hv7, hv8, List.drop]
      clear hv0 hv1 hv2 hv3 hv4 hv5 hv6 hv7 hv8
      replace A := A.since qh5
      replace L := L.since qh5
      replace P := P.since qh5
      replace G := G.trans qh5
      have qh5_s := qh5.size
      have qx3_m := qx3_B.lt
      refine VL.out ?_
      refine sB (sgCells ⟨0, 0, d.una, d.iN, 16, rm, 0, ByteArray.empty⟩) seg_big qx3_B rfl qx3_z (seg_one _ _ _ _ _ _ _ _) ?_
      intro qw7 qt8 qB9
      clear qx3_B
      replace A := A.touch qt8 (by omega)
      replace L := L.touch qt8 (by omega)
      replace P := P.touch qt8 (by omega)
      replace G := G.touch qt8 (by omega)
      have qt8_s := qt8.size
      refine vE #[.pointer (some ⟨g, 0, none⟩),U,.pointer (some ⟨g, 0, none⟩),.pointer (some ⟨qx3, 0, none⟩),.pointer (some ⟨g, 0, none⟩),.pointer (some ⟨g, 0, none⟩),.pointer (some ⟨g, 0, none⟩),.pointer (some ⟨g, 0, none⟩),.pointer (some ⟨g, 0, none⟩),.agg (cnCells d),.bool true,.bool false,U,U,U,.pointer (some ⟨g, 0, none⟩),.pointer (some ⟨g, 0, none⟩),.agg (cnCells d),.pointer (some ⟨g, 0, none⟩),.pointer (some ⟨g, 0, none⟩),.pointer (some ⟨g, 2, none⟩),.int .u32 d.una,.agg (sgCells ⟨0, 0, d.una, d.iN, 16, rm, 0, ByteArray.empty⟩),U,U,U,U,U,U,U,U,U,U,U,U,U,U,U,U,U,U,U,U,U,U,U,U,U,U,U,U,U,U,U,U,U,U,U,U,U,U,U,U,U,U,U,U] ?_
      go_upto_region 4 with (fail)
      refine wp_region_tail (wb := qw7) 11 (fun i x v => match i with
          | 0 => v = .pointer (some ⟨g, 0, none⟩)
          | 1 => v = .pointer (some ⟨g, 0, none⟩)
          | 2 => v = .pointer (some ⟨g, 8, none⟩)
          | 3 => v = .agg #[.int .u32 d.oF, .string d.oD, .int .i64 d.oR]
          | 4 => v = .pointer (some ⟨g, 0, none⟩)
          | 5 => v = .pointer (some ⟨g, 0, none⟩)
          | 6 => v = .pointer (some ⟨g, 8, none⟩)
          | 7 => v = .pointer (some ⟨g, 8, none⟩)
          | 8 => v = .int .u32 d.oF
          | 9 => v = .string tk
          | 10 => v = .pointer (some ⟨qx3, 7, none⟩)
          | _ => True) (fun v => { tmps := #[.pointer (some ⟨g, 0, none⟩), undef, .pointer (some ⟨g, 0, none⟩), .pointer (some ⟨qx3, 0, none⟩), .pointer (some ⟨g, 0, none⟩), .pointer (some ⟨g, 0, none⟩), .pointer (some ⟨g, 0, none⟩), .pointer (some ⟨g, 0, none⟩), .pointer (some ⟨g, 0, none⟩), .agg (cnCells d), .bool true, .bool false, undef, undef, undef, .pointer (some ⟨g, 0, none⟩), .pointer (some ⟨g, 0, none⟩), .agg (cnCells d), .pointer (some ⟨g, 0, none⟩), .pointer (some ⟨g, 0, none⟩), .pointer (some ⟨g, 2, none⟩), .int .u32 d.una, .agg (sgCells ⟨0, 0, d.una, d.iN, 16, rm, 0, ByteArray.empty⟩), v 0, v 1, v 2, v 3, v 4, v 5, v 6, v 7, v 8, v 9, v 10, undef, undef, undef, undef, undef, undef, undef, undef, undef, undef, undef, undef, undef, undef, undef, undef, undef, undef, undef, undef, undef, undef, undef, undef, undef, undef, undef, undef, undef, undef, undef, undef, undef], defers := [] }) (by kernel_rfl) (by kernel_rfl) (by kernel_rfl) (Since.refl _) ?_ (fun vals => by kernel_rfl) ?_ ?_
      case refine_1 =>
        intro j x x' v h1 h2
        match j, h2 with
        | 0, h2 | 1, h2 | 2, h2 | 3, h2 | 4, h2 | 5, h2 | 6, h2 | 7, h2 | 8, h2 | 9, h2 | 10, h2 => exact h2
        | n + 11, _ => trivial
      case refine_2 =>
        repeat (first | exact eachDoes_nil | refine eachDoes_cons ?_ ?_)
        all_goals intro vals x hx hv
        all_goals simp [Region.binds] at hv
        · simp [does, doesUpon, go_sem, Since.refl]
        · simp [does, doesUpon, go_sem, hv]
          refine (htk _).mono ?_
          rintro _ x' ⟨rfl, h1⟩
          simp [h1]
        · have fl0 : x.cell? ⟨g, 8, none⟩ = some (.int .u32 d.oF) := (A.since hx).cell 8
          simp [does, doesUpon, go_sem, hv, fl0, Since.refl]
        · simp [does, doesUpon, go_sem, hv, Since.refl]
        · simp [does, doesUpon, go_sem, hv, Since.refl]
        · simp [does, doesUpon, go_sem, hv, Since.refl]
        · simp [does, doesUpon, go_sem, Since.refl]
        · exact does_part_load (A.since hx) pOut_big _ rfl 8 hv [.int .u32 d.oF, .string d.oD, .int .i64 d.oR] rfl (fun j v hj => by match j, hj with | 0, h => exact h | 1, h => exact h | 2, h => exact h | n + 3, h => exact absurd h (by simp)) ⟨Since.refl _, rfl⟩
        · simp [does, doesUpon, go_sem, hv, Since.refl]
        · simp [does, doesUpon, go_sem, hv, Since.refl]
        · simp [does, doesUpon, go_sem, Since.refl]
      case refine_3 =>
        intro qv12 qw10 qh11 hv
        have hv0 : qv12 0 = _ := hv 0 (by decide)
        have hv1 : qv12 1 = _ := hv 1 (by decide)
        have hv2 : qv12 2 = _ := hv 2 (by decide)
        have hv3 : qv12 3 = _ := hv 3 (by decide)
        have hv4 : qv12 4 = _ := hv 4 (by decide)
        have hv5 : qv12 5 = _ := hv 5 (by decide)
        have hv6 : qv12 6 = _ := hv 6 (by decide)
        have hv7 : qv12 7 = _ := hv 7 (by decide)
        have hv8 : qv12 8 = _ := hv 8 (by decide)
        have hv9 : qv12 9 = _ := hv 9 (by decide)
        have hv10 : qv12 10 = _ := hv 10 (by decide)
        clear hv
        simp only [hv0, hv1, hv2, hv3, hv4, hv5, hv6, hv7, hv8, hv9, hv10, List.drop]
        clear hv0 hv1 hv2 hv3 hv4 hv5 hv6 hv7 hv8 hv9 hv10
        replace A := A.since qh11
        replace qB9 := qB9.since qh11
        replace L := L.since qh11
        replace P := P.since qh11
        replace G := G.trans qh11
        have qh11_s := qh11.size
        refine VL.out ?_
        refine sC (sgCells ⟨0, 0, d.una, d.iN, 16, rm, 0, tk⟩) qB9 7 (.string tk) rfl ?_
        intro qw13 qt14 qB15
        clear qB9
        replace A := A.touch qt14 (by omega)
        replace L := L.touch qt14 (by omega)
        replace P := P.touch qt14 (by omega)
        replace G := G.touch qt14 (by omega)
        have qt14_s := qt14.size
        refine vE #[.pointer (some ⟨g, 0, none⟩),U,.pointer (some ⟨g, 0, none⟩),.pointer (some ⟨qx3, 0, none⟩),.pointer (some ⟨g, 0, none⟩),.pointer (some ⟨g, 0, none⟩),.pointer (some ⟨g, 0, none⟩),.pointer (some ⟨g, 0, none⟩),.pointer (some ⟨g, 0, none⟩),.agg (cnCells d),.bool true,.bool false,U,U,U,.pointer (some ⟨g, 0, none⟩),.pointer (some ⟨g, 0, none⟩),.agg (cnCells d),.pointer (some ⟨g, 0, none⟩),.pointer (some ⟨g, 0, none⟩),.pointer (some ⟨g, 2, none⟩),.int .u32 d.una,.agg (sgCells ⟨0, 0, d.una, d.iN, 16, rm, 0, ByteArray.empty⟩),.pointer (some ⟨g, 0, none⟩),.pointer (some ⟨g, 0, none⟩),.pointer (some ⟨g, 8, none⟩),.agg #[.int .u32 d.oF, .string d.oD, .int .i64 d.oR],.pointer (some ⟨g, 0, none⟩),.pointer (some ⟨g, 0, none⟩),.pointer (some ⟨g, 8, none⟩),.pointer (some ⟨g, 8, none⟩),.int .u32 d.oF,.string tk,.pointer (some ⟨qx3, 7, none⟩),U,U,U,U,U,U,U,U,U,U,U,U,U,U,U,U,U,U,U,U,U,U,U,U,U,U,U,U,U,U,U,U,U] ?_
        go_upto_region 5 with (fail)
        refine vR ?_
        refine vV (.pointer (some ⟨g, 0, none⟩)) ?_
        refine vB seg_big qB15 rfl ?_
        refine vW (qw13.alloc (.cells (sgCells ⟨0, 0, d.una, d.iN, 16, rm, 0, tk⟩) 61)) (.slice (some ⟨qw13.heap.size, 0, none⟩) 1 1) ?_
        have qL17 := heldG1 qw13 (⟨0, 0, d.una, d.iN, 16, rm, 0, tk⟩)
        have qg18 := (Since.refl qw13).alloc (.cells (sgCells ⟨0, 0, d.una, d.iN, 16, rm, 0, tk⟩) 61)
        replace A := A.since qg18
        replace qB15 := qB15.since qg18
        replace L := L.since qg18
        replace P := P.since qg18
        replace G := G.trans qg18
        generalize qw13.alloc (.cells (sgCells ⟨0, 0, d.una, d.iN, 16, rm, 0, tk⟩) 61) = qw16 at A qB15 L P G qL17 qg18 ⊢
        have qg18_s := qg18.size
        have qL17_l := qL17.lt
        refine vC (implSends _ _ _ _ _ _ _ _ _ _ ⟨0, 0, d.una, d.iN, 16, rm, 0, tk⟩ _ hn _ ⟨A, L, P, pa, lo, (by omega), (by omega), (by omega)⟩ (qL17.raise (by omega)) (by omega)) ?_
        rintro _ qw19 ⟨rfl, ⟨gsqk21, nqk21, cqk21, ⟨Aqk21, Lqk21, Pqk21, paqk21, loqk21, iqk21, jqk21, lqk21⟩⟩, qh20⟩
        refine ⟨_, rfl, ?_⟩
        clear A L P
        clear qB15
        replace G := G.base qh20
        have qh20_s := qh20.size
        have Aqk21_l := Aqk21.lt
        have Lqk21_l := Lqk21.lt
        have Lqk21_o := Lqk21.low'
        have Pqk21_l := Pqk21.lt
        refine vE #[.pointer (some ⟨g, 0, none⟩),U,.pointer (some ⟨g, 0, none⟩),.pointer (some ⟨qx3, 0, none⟩),.pointer (some ⟨g, 0, none⟩),.pointer (some ⟨g, 0, none⟩),.pointer (some ⟨g, 0, none⟩),.pointer (some ⟨g, 0, none⟩),.pointer (some ⟨g, 0, none⟩),.agg (cnCells d),.bool true,.bool false,U,U,U,.pointer (some ⟨g, 0, none⟩),.pointer (some ⟨g, 0, none⟩),.agg (cnCells d),.pointer (some ⟨g, 0, none⟩),.pointer (some ⟨g, 0, none⟩),.pointer (some ⟨g, 2, none⟩),.int .u32 d.una,.agg (sgCells ⟨0, 0, d.una, d.iN, 16, rm, 0, ByteArray.empty⟩),.pointer (some ⟨g, 0, none⟩),.pointer (some ⟨g, 0, none⟩),.pointer (some ⟨g, 8, none⟩),.agg #[.int .u32 d.oF, .string d.oD, .int .i64 d.oR],.pointer (some ⟨g, 0, none⟩),.pointer (some ⟨g, 0, none⟩),.pointer (some ⟨g, 8, none⟩),.pointer (some ⟨g, 8, none⟩),.int .u32 d.oF,.string tk,.pointer (some ⟨qx3, 7, none⟩),.pointer (some ⟨g, 0, none⟩),.agg (sgCells ⟨0, 0, d.una, d.iN, 16, rm, 0, tk⟩),.slice (some ⟨qw13.heap.size, 0, none⟩) 1 1,.tuple #[],U,U,U,U,U,U,U,U,U,U,U,U,U,U,U,U,U,U,U,U,U,U,U,U,U,U,U,U,U] ?_
        rw [← hps.out] at Lqk21
        go_upto_region 6 with (fail)
        refine wp_region_tail (wb := qw19) 13 (fun i x v => match i with
            | 0 => v = .pointer (some ⟨g, 0, none⟩)
            | 1 => v = .pointer (some ⟨g, 0, none⟩)
            | 2 => v = .pointer (some ⟨g, 0, none⟩)
            | 3 => v = .pointer (some ⟨g, 4, none⟩)
            | 4 => v = .int .u32 d.mx
            | 5 => v = .pointer (some ⟨g, 0, none⟩)
            | 6 => v = .pointer (some ⟨g, 0, none⟩)
            | 7 => v = .pointer (some ⟨g, 2, none⟩)
            | 8 => v = .int .u32 d.una
            | 9 => v = .int .u32 un
            | 10 => v = .int .u32 mv
            | 11 => v = .pointer (some ⟨g, 0, none⟩)
            | 12 => v = .pointer (some ⟨g, 4, none⟩)
            | _ => True) (fun v => { tmps := #[.pointer (some ⟨g, 0, none⟩), undef, .pointer (some ⟨g, 0, none⟩), .pointer (some ⟨qx3, 0, none⟩), .pointer (some ⟨g, 0, none⟩), .pointer (some ⟨g, 0, none⟩), .pointer (some ⟨g, 0, none⟩), .pointer (some ⟨g, 0, none⟩), .pointer (some ⟨g, 0, none⟩), .agg (cnCells d), .bool true, .bool false, undef, undef, undef, .pointer (some ⟨g, 0, none⟩), .pointer (some ⟨g, 0, none⟩), .agg (cnCells d), .pointer (some ⟨g, 0, none⟩), .pointer (some ⟨g, 0, none⟩), .pointer (some ⟨g, 2, none⟩), .int .u32 d.una, .agg (sgCells ⟨0, 0, d.una, d.iN, 16, rm, 0, ByteArray.empty⟩), .pointer (some ⟨g, 0, none⟩), .pointer (some ⟨g, 0, none⟩), .pointer (some ⟨g, 8, none⟩), .agg #[.int .u32 d.oF, .string d.oD, .int .i64 d.oR], .pointer (some ⟨g, 0, none⟩), .pointer (some ⟨g, 0, none⟩), .pointer (some ⟨g, 8, none⟩), .pointer (some ⟨g, 8, none⟩), .int .u32 d.oF, .string tk, .pointer (some ⟨qx3, 7, none⟩), .pointer (some ⟨g, 0, none⟩), .agg (sgCells ⟨0, 0, d.una, d.iN, 16, rm, 0, tk⟩), .slice (some ⟨qw13.heap.size, 0, none⟩) 1 1, .tuple #[], v 0, v 1, v 2, v 3, v 4, v 5, v 6, v 7, v 8, v 9, v 10, v 11, v 12, undef, undef, undef, undef, undef, undef, undef, undef, undef, undef, undef, undef, undef, undef, undef, undef], defers := [] }) (by kernel_rfl) (by kernel_rfl) (by kernel_rfl) (Since.refl _) ?_ (fun vals => by kernel_rfl) ?_ ?_
        case refine_1 =>
          intro j x x' v h1 h2
          match j, h2 with
          | 0, h2 | 1, h2 | 2, h2 | 3, h2 | 4, h2 | 5, h2 | 6, h2 | 7, h2 | 8, h2 | 9, h2 | 10, h2 | 11, h2 | 12, h2 => exact h2
          | n + 13, _ => trivial
        case refine_2 =>
          repeat (first | exact eachDoes_nil | refine eachDoes_cons ?_ ?_)
          all_goals intro vals x hx hv
          all_goals simp [Region.binds] at hv
          · simp [does, doesUpon, go_sem, hv, Since.refl]
          · simp [does, doesUpon, go_sem, hv, Since.refl]
          · simp [does, doesUpon, go_sem, hv]
            refine (hmx _).mono ?_
            rintro _ x' ⟨rfl, rfl⟩
            simp [Since.refl]
          · simp [does, doesUpon, go_sem, hv, Since.refl, hwr.out]
          · have fl0 : x.cell? ⟨g, 2, none⟩ = some (.int .u32 d.una) := (Aqk21.since hx).cell 2
            simp [does, doesUpon, go_sem, hv, fl0, Since.refl]
          · simp [does, doesUpon, go_sem, hv, Since.refl]
          · simp [does, doesUpon, go_sem, hv, Since.refl]
          · simp [does, doesUpon, go_sem, Since.refl]
          · have fl0 : x.cell? ⟨g, 4, none⟩ = some (.int .u32 d.mx) := (Aqk21.since hx).cell 4
            simp [does, doesUpon, go_sem, hv, fl0, Since.refl]
          · simp [does, doesUpon, go_sem, hv, Since.refl]
          · simp [does, doesUpon, go_sem, hv, Since.refl]
          · simp [does, doesUpon, go_sem, Since.refl]
          · simp [does, doesUpon, go_sem, Since.refl]
        case refine_3 =>
          intro qv24 qw22 qh23 hv
          have hv0 : qv24 0 = _ := hv 0 (by decide)
          have hv1 : qv24 1 = _ := hv 1 (by decide)
          have hv2 : qv24 2 = _ := hv 2 (by decide)
          have hv3 : qv24 3 = _ := hv 3 (by decide)
          have hv4 : qv24 4 = _ := hv 4 (by decide)
          have hv5 : qv24 5 = _ := hv 5 (by decide)
          have hv6 : qv24 6 = _ := hv 6 (by decide)
          have hv7 : qv24 7 = _ := hv 7 (by decide)
          have hv8 : qv24 8 = _ := hv 8 (by decide)
          have hv9 : qv24 9 = _ := hv 9 (by decide)
          have hv10 : qv24 10 = _ := hv 10 (by decide)
          have hv11 : qv24 11 = _ := hv 11 (by decide)
          have hv12 : qv24 12 = _ := hv 12 (by decide)
          clear hv
          simp only [hv0, hv1, hv2, hv3, hv4, hv5, hv6, hv7, hv8, hv9, hv10, hv11, hv12, List.drop]
          clear hv0 hv1 hv2 hv3 hv4 hv5 hv6 hv7 hv8 hv9 hv10 hv11 hv12
          replace Aqk21 := Aqk21.since qh23
          replace Lqk21 := Lqk21.since qh23
          replace Pqk21 := Pqk21.since qh23
          replace G := G.trans qh23
          have qh23_s := qh23.size
          refine VL.out ?_
          refine sC (actCells { d with mx := mv } now (.slice (some ⟨gsqk21, 0, none⟩) nqk21 cqk21)) Aqk21 4 (.int .u32 mv) (act_size _ _ _) ?_
          intro qw25 qt26 qB27
          clear Aqk21
          replace Lqk21 := Lqk21.touch qt26 (by omega)
          replace Pqk21 := Pqk21.touch qt26 (by omega)
          replace G := G.touch qt26 (by omega)
          have qt26_s := qt26.size
          refine vE #[.pointer (some ⟨g, 0, none⟩),U,.pointer (some ⟨g, 0, none⟩),.pointer (some ⟨qx3, 0, none⟩),.pointer (some ⟨g, 0, none⟩),.pointer (some ⟨g, 0, none⟩),.pointer (some ⟨g, 0, none⟩),.pointer (some ⟨g, 0, none⟩),.pointer (some ⟨g, 0, none⟩),.agg (cnCells d),.bool true,.bool false,U,U,U,.pointer (some ⟨g, 0, none⟩),.pointer (some ⟨g, 0, none⟩),.agg (cnCells d),.pointer (some ⟨g, 0, none⟩),.pointer (some ⟨g, 0, none⟩),.pointer (some ⟨g, 2, none⟩),.int .u32 d.una,.agg (sgCells ⟨0, 0, d.una, d.iN, 16, rm, 0, ByteArray.empty⟩),.pointer (some ⟨g, 0, none⟩),.pointer (some ⟨g, 0, none⟩),.pointer (some ⟨g, 8, none⟩),.agg #[.int .u32 d.oF, .string d.oD, .int .i64 d.oR],.pointer (some ⟨g, 0, none⟩),.pointer (some ⟨g, 0, none⟩),.pointer (some ⟨g, 8, none⟩),.pointer (some ⟨g, 8, none⟩),.int .u32 d.oF,.string tk,.pointer (some ⟨qx3, 7, none⟩),.pointer (some ⟨g, 0, none⟩),.agg (sgCells ⟨0, 0, d.una, d.iN, 16, rm, 0, tk⟩),.slice (some ⟨qw13.heap.size, 0, none⟩) 1 1,.tuple #[],.pointer (some ⟨g, 0, none⟩),.pointer (some ⟨g, 0, none⟩),.pointer (some ⟨g, 0, none⟩),.pointer (some ⟨g, 4, none⟩),.int .u32 d.mx,.pointer (some ⟨g, 0, none⟩),.pointer (some ⟨g, 0, none⟩),.pointer (some ⟨g, 2, none⟩),.int .u32 d.una,.int .u32 un,.int .u32 mv,.pointer (some ⟨g, 0, none⟩),.pointer (some ⟨g, 4, none⟩),U,U,U,U,U,U,U,U,U,U,U,U,U,U,U,U] ?_
          go_upto_region 7 with (fail)
          refine vR ?_
          refine vV (.pointer (some ⟨g, 0, none⟩)) ?_
          refine vV (.pointer (some ⟨g, 0, none⟩)) ?_
          refine vV (.pointer (some ⟨g, 0, none⟩)) ?_
          refine vV (.pointer (some ⟨g, 0, none⟩)) ?_
          refine vV (.pointer (some ⟨g, 19, none⟩)) ?_
          refine vP pRtt_big qB27 19 [.bool d.rA, .int .i64 d.rS, .int .i64 d.rV, .int .i64 d.rD] ?_
          refine vK (hbk _) ?_
          intro qw28 qg29
          replace qB27 := qB27.since qg29
          replace Lqk21 := Lqk21.since qg29
          replace Pqk21 := Pqk21.since qg29
          replace G := G.trans qg29
          have qg29_s := qg29.size
          refine vV (.pointer (some ⟨g, 0, none⟩)) ?_
          refine vV (.pointer (some ⟨g, 28, none⟩)) ?_
          refine sC (actCells { d with mx := mv, tmg := false } now (.slice (some ⟨gsqk21, 0, none⟩) nqk21 cqk21)) qB27 28 (.bool false) (act_size _ _ _) ?_
          intro qw30 qt31 qB32
          clear qB27
          replace Lqk21 := Lqk21.touch qt31 (by omega)
          replace Pqk21 := Pqk21.touch qt31 (by omega)
          replace G := G.touch qt31 (by omega)
          have qt31_s := qt31.size
          refine vV (.pointer (some ⟨g, 0, none⟩)) ?_
          refine vV (.pointer (some ⟨g, 19, none⟩)) ?_
          refine sP (actCells { d with mx := mv, tmg := false, rA := d.rA, rS := d.rS, rV := d.rV, rD := rd } now (.slice (some ⟨gsqk21, 0, none⟩) nqk21 cqk21)) pRtt_big qB32 19 #[.bool d.rA, .int .i64 d.rS, .int .i64 d.rV, .int .i64 rd] (act_size _ _ _) (by simp [Value.oneCell']) ?_
          intro qw33 qt34 qB35
          clear qB32
          replace Lqk21 := Lqk21.touch qt34 (by omega)
          replace Pqk21 := Pqk21.touch qt34 (by omega)
          replace G := G.touch qt34 (by omega)
          have qt34_s := qt34.size
          refine vE #[.pointer (some ⟨g, 0, none⟩),U,.pointer (some ⟨g, 0, none⟩),.pointer (some ⟨qx3, 0, none⟩),.pointer (some ⟨g, 0, none⟩),.pointer (some ⟨g, 0, none⟩),.pointer (some ⟨g, 0, none⟩),.pointer (some ⟨g, 0, none⟩),.pointer (some ⟨g, 0, none⟩),.agg (cnCells d),.bool true,.bool false,U,U,U,.pointer (some ⟨g, 0, none⟩),.pointer (some ⟨g, 0, none⟩),.agg (cnCells d),.pointer (some ⟨g, 0, none⟩),.pointer (some ⟨g, 0, none⟩),.pointer (some ⟨g, 2, none⟩),.int .u32 d.una,.agg (sgCells ⟨0, 0, d.una, d.iN, 16, rm, 0, ByteArray.empty⟩),.pointer (some ⟨g, 0, none⟩),.pointer (some ⟨g, 0, none⟩),.pointer (some ⟨g, 8, none⟩),.agg #[.int .u32 d.oF, .string d.oD, .int .i64 d.oR],.pointer (some ⟨g, 0, none⟩),.pointer (some ⟨g, 0, none⟩),.pointer (some ⟨g, 8, none⟩),.pointer (some ⟨g, 8, none⟩),.int .u32 d.oF,.string tk,.pointer (some ⟨qx3, 7, none⟩),.pointer (some ⟨g, 0, none⟩),.agg (sgCells ⟨0, 0, d.una, d.iN, 16, rm, 0, tk⟩),.slice (some ⟨qw13.heap.size, 0, none⟩) 1 1,.tuple #[],.pointer (some ⟨g, 0, none⟩),.pointer (some ⟨g, 0, none⟩),.pointer (some ⟨g, 0, none⟩),.pointer (some ⟨g, 4, none⟩),.int .u32 d.mx,.pointer (some ⟨g, 0, none⟩),.pointer (some ⟨g, 0, none⟩),.pointer (some ⟨g, 2, none⟩),.int .u32 d.una,.int .u32 un,.int .u32 mv,.pointer (some ⟨g, 0, none⟩),.pointer (some ⟨g, 4, none⟩),.pointer (some ⟨g, 0, none⟩),.pointer (some ⟨g, 0, none⟩),.pointer (some ⟨g, 0, none⟩),.pointer (some ⟨g, 0, none⟩),.pointer (some ⟨g, 19, none⟩),.agg #[.bool d.rA, .int .i64 d.rS, .int .i64 d.rV, .int .i64 d.rD],.agg #[.bool d.rA, .int .i64 d.rS, .int .i64 d.rV, .int .i64 rd],.pointer (some ⟨g, 0, none⟩),.pointer (some ⟨g, 28, none⟩),.pointer (some ⟨g, 0, none⟩),.pointer (some ⟨g, 19, none⟩),U,U,U,U,U] ?_
          go_upto_region 8 with (fail)
          refine vR ?_
          refine vV (.pointer (some ⟨g, 0, none⟩)) ?_
          refine vV (.pointer (some ⟨g, 0, none⟩)) ?_
          refine vK (hfn _ _ _ qB35) ?_
          intro qw36 qg37
          replace qB35 := qB35.since qg37
          replace Lqk21 := Lqk21.since qg37
          replace Pqk21 := Pqk21.since qg37
          replace G := G.trans qg37
          have qg37_s := qg37.size
          refine vV (.pointer (some ⟨g, 0, none⟩)) ?_
          refine vV (.pointer (some ⟨g, 32, none⟩)) ?_
          refine sC (actCells { d with mx := mv, tmg := false, rA := d.rA, rS := d.rS, rV := d.rV, rD := rd, prb := (now + waitOf d.rA d.rS d.rV rd) } now (.slice (some ⟨gsqk21, 0, none⟩) nqk21 cqk21)) qB35 32 (.int .i64 (now + waitOf d.rA d.rS d.rV rd)) (act_size _ _ _) ?_
          intro qw38 qt39 qB40
          clear qB35
          replace Lqk21 := Lqk21.touch qt39 (by omega)
          replace Pqk21 := Pqk21.touch qt39 (by omega)
          replace G := G.touch qt39 (by omega)
          have qt39_s := qt39.size
          refine vE #[.pointer (some ⟨g, 0, none⟩),U,.pointer (some ⟨g, 0, none⟩),.pointer (some ⟨qx3, 0, none⟩),.pointer (some ⟨g, 0, none⟩),.pointer (some ⟨g, 0, none⟩),.pointer (some ⟨g, 0, none⟩),.pointer (some ⟨g, 0, none⟩),.pointer (some ⟨g, 0, none⟩),.agg (cnCells d),.bool true,.bool false,U,U,U,.pointer (some ⟨g, 0, none⟩),.pointer (some ⟨g, 0, none⟩),.agg (cnCells d),.pointer (some ⟨g, 0, none⟩),.pointer (some ⟨g, 0, none⟩),.pointer (some ⟨g, 2, none⟩),.int .u32 d.una,.agg (sgCells ⟨0, 0, d.una, d.iN, 16, rm, 0, ByteArray.empty⟩),.pointer (some ⟨g, 0, none⟩),.pointer (some ⟨g, 0, none⟩),.pointer (some ⟨g, 8, none⟩),.agg #[.int .u32 d.oF, .string d.oD, .int .i64 d.oR],.pointer (some ⟨g, 0, none⟩),.pointer (some ⟨g, 0, none⟩),.pointer (some ⟨g, 8, none⟩),.pointer (some ⟨g, 8, none⟩),.int .u32 d.oF,.string tk,.pointer (some ⟨qx3, 7, none⟩),.pointer (some ⟨g, 0, none⟩),.agg (sgCells ⟨0, 0, d.una, d.iN, 16, rm, 0, tk⟩),.slice (some ⟨qw13.heap.size, 0, none⟩) 1 1,.tuple #[],.pointer (some ⟨g, 0, none⟩),.pointer (some ⟨g, 0, none⟩),.pointer (some ⟨g, 0, none⟩),.pointer (some ⟨g, 4, none⟩),.int .u32 d.mx,.pointer (some ⟨g, 0, none⟩),.pointer (some ⟨g, 0, none⟩),.pointer (some ⟨g, 2, none⟩),.int .u32 d.una,.int .u32 un,.int .u32 mv,.pointer (some ⟨g, 0, none⟩),.pointer (some ⟨g, 4, none⟩),.pointer (some ⟨g, 0, none⟩),.pointer (some ⟨g, 0, none⟩),.pointer (some ⟨g, 0, none⟩),.pointer (some ⟨g, 0, none⟩),.pointer (some ⟨g, 19, none⟩),.agg #[.bool d.rA, .int .i64 d.rS, .int .i64 d.rV, .int .i64 d.rD],.agg #[.bool d.rA, .int .i64 d.rS, .int .i64 d.rV, .int .i64 rd],.pointer (some ⟨g, 0, none⟩),.pointer (some ⟨g, 28, none⟩),.pointer (some ⟨g, 0, none⟩),.pointer (some ⟨g, 19, none⟩),.pointer (some ⟨g, 0, none⟩),.pointer (some ⟨g, 0, none⟩),.int .i64 (now + waitOf d.rA d.rS d.rV rd),.pointer (some ⟨g, 0, none⟩),.pointer (some ⟨g, 32, none⟩)] ?_
          go_wp2_with (fail)
          refine bodyPost_end (v := .tuple #[]) (results_none rfl _ _ _) rfl ⟨rfl, ?_, G⟩
          rw [hX.out]
          show ActsX B g pg now ps (probeC d now) (xs ++ [probeSg d ps]) _
          rw [hpc.out]
          exact ⟨_, _, _, ⟨qB40, Lqk21, Pqk21, paqk21, loqk21, (by omega), (by omega), (by omega)⟩⟩
end Go.Proofs.YtfenlfijfjcdbaaGreat
