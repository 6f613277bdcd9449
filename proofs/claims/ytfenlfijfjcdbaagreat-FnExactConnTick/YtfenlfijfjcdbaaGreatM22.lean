/-
  An end that sends again from what is not confirmed, as impl does it.
  The segment by which an end asks, or answers who asked, as spec makes it.
  A region that leaves its order open and stores among its reads: what is known of the world hangs on which operations are done; each operation is shown once. (Own law over the library's 'wpAny'.)
  What is due by a tick, as plain steps.
  An end that begins, as impl makes it.
-/
import Derived.Test.YtfenlfijfjcdbaaGreatM7
import Derived.Test.YtfenlfijfjcdbaaGreatTick11A
import Derived.Test.YtfenlfijfjcdbaaGreatSend11I
import Derived.Deep.DeepCutAuto
import Derived.Test.YtfenlfijfjcdbaaGreatM25
import Derived.Test.YtfenlfijfjcdbaaGreatM23
import Derived.Test.YtfenlfijfjcdbaaGreatM8
import Derived.Test.YtfenlfijfjcdbaaGreatM3
import Derived.Test.YtfenlfijfjcdbaaGreatFreshC
import Derived.Test.YtfenlfijfjcdbaaGreatStep
import Derived.Great.BuildSlice
import Derived.Deep.RegionWith
namespace Go.Proofs.YtfenlfijfjcdbaaGreat
open Go.ChangeShapes Go.WideShapes Go.ChangeAt Go.RowKit
set_option linter.unusedVariables false
set_option maxRecDepth 10000

def shutB (d : Cn) : Bool := decide (d.wnd = 0) && !decide (d.oD = ByteArray.empty)

def backD (d : Cn) : Cn := { d with nxt := d.una }

def backX (ps : List (Int × ByteArray)) (now : Int) (d : Cn) (xs : List Sg) : Cn × List Sg := if shutB d then ({ backD d with agn := 0, prb := now + waitOf d.rA d.rS d.rV d.rD }, xs) else sendX (backD d) ps now xs

set_option maxRecDepth 20000 in
set_option maxHeartbeats 8000000 in
theorem implGoBack (B g pg : Nat) (now : Int) (ps : List (Int × ByteArray)) (d : Cn) (gs n cap : Nat) (xs : List Sg) (h0 : 0 ≤ now) (h1 : now ≤ 1000000000) (ms : MayS (backD d) ps) (hx : xs.length ≤ 40000) (w : World) (a : Acts B g pg now ps d gs n cap xs w) :
    Calls Tryz.prog 94 #[.pointer (some ⟨g, 0, none⟩)] w fun e w' => e = .returned (.tuple #[]) ∧ ActsX B g pg now ps ((backX ps now d xs).1) ((backX ps now d xs).2) w' ∧ Base B w w' := by
  obtain ⟨A, L, P, pa, lo, i, j, l⟩ := a
  have hA := A.lt
  have hL := L.lt
  have hLo := L.low'
  have hP := P.lt
  have hPo := P.low'
  have G : Base B w w := Base.refl (by omega)
  obtain ⟨sb, hsb⟩ : ∃ q, Hid (q = shutB d) := ⟨_, rfl⟩
  have hX : Hid (backX ps now d xs = if sb then ({ backD d with agn := 0, prb := now + waitOf d.rA d.rS d.rV d.rD }, xs) else sendX (backD d) ps now xs) := by
    show backX ps now d xs = _
    unfold backX
    rw [hsb.out]
  have hfn := fun (dd : Cn) sv' wx Ax => implFromNow g now dd sv' h0 h1 wx Ax
  obtain ⟨b1, hb1⟩ : ∃ q, Hid (q = (d.wnd == 0)) := ⟨_, rfl⟩
  go_enter Tryz.func94, Tryz.ntmps94
  go_upto_region 1 with (fail)
  refine vR ?_
  refine vV (.pointer (some ⟨g, 0, none⟩)) ?_
  refine vV (.pointer (some ⟨g, 0, none⟩)) ?_
  refine vV (.pointer (some ⟨g, 0, none⟩)) ?_
  refine vV (.pointer (some ⟨g, 2, none⟩)) ?_
  refine vD (.int .u32 d.una) (A.cell 2) ?_
  refine vV (.pointer (some ⟨g, 0, none⟩)) ?_
  refine vV (.pointer (some ⟨g, 3, none⟩)) ?_
  refine sC (actCells { d with nxt := d.una } now (.slice (some ⟨gs, 0, none⟩) n cap)) A 3 (.int .u32 d.una) (act_size _ _ _) ?_
  intro qw1 qt2 qB3
  clear A
  replace L := L.touch qt2 (by omega)
  replace P := P.touch qt2 (by omega)
  replace G := G.touch qt2 (by omega)
  have qt2_s := qt2.size
  refine vE #[.pointer (some ⟨g, 0, none⟩),U,.pointer (some ⟨g, 0, none⟩),.pointer (some ⟨g, 0, none⟩),.pointer (some ⟨g, 0, none⟩),.pointer (some ⟨g, 0, none⟩),.pointer (some ⟨g, 0, none⟩),.pointer (some ⟨g, 0, none⟩),.pointer (some ⟨g, 0, none⟩),.pointer (some ⟨g, 2, none⟩),.int .u32 d.una,.pointer (some ⟨g, 0, none⟩),.pointer (some ⟨g, 3, none⟩),U,U,U,U,U,U,U,U,U,U,U,U,U,U,U,U,U,U,U,U,U,U,U] ?_
  go_upto_region 2 with (fail)
  cases b1
  case false =>
    have hs : sb = false := hsb.out.trans (by unfold shutB; rw [decide_eq_false (show ¬ d.wnd = 0 by simpa using hb1.out.symm)]; rfl)
    subst hs
    have hX1 : Hid (backX ps now d xs = sendX ({ d with nxt := d.una }) ps now xs) := hX.out
    refine vR ?_
    refine vV (.pointer (some ⟨g, 0, none⟩)) ?_
    refine vV (.pointer (some ⟨g, 0, none⟩)) ?_
    refine vV (.pointer (some ⟨g, 5, none⟩)) ?_
    refine vD (.int .i64 d.wnd) (qB3.cell 5) ?_
    refine vV (.bool false) ?_ (hrun := by rw [show false = (d.wnd == 0) from hb1.out]; kernel_rfl)
    refine vV (.bool false) ?_
    refine vS ?_
    refine vS ?_
    refine vS ?_
    refine vS ?_
    refine vS ?_
    refine vS ?_
    refine vV (.bool false) ?_
    refine vE #[.pointer (some ⟨g, 0, none⟩),U,.pointer (some ⟨g, 0, none⟩),.pointer (some ⟨g, 0, none⟩),.pointer (some ⟨g, 0, none⟩),.pointer (some ⟨g, 0, none⟩),.pointer (some ⟨g, 0, none⟩),.pointer (some ⟨g, 0, none⟩),.pointer (some ⟨g, 0, none⟩),.pointer (some ⟨g, 2, none⟩),.int .u32 d.una,.pointer (some ⟨g, 0, none⟩),.pointer (some ⟨g, 3, none⟩),.pointer (some ⟨g, 0, none⟩),.pointer (some ⟨g, 0, none⟩),.pointer (some ⟨g, 5, none⟩),.int .i64 d.wnd,.bool false,.bool false,U,U,U,U,U,U,.bool false,U,U,U,U,U,U,U,U,U,U] ?_
    go_upto_region 4 with (fail)
    refine vR ?_
    refine vV (.pointer (some ⟨g, 0, none⟩)) ?_
    refine vC (implSend _ _ _ _ _ _ _ _ _ _ h0 h1 ms hx _ ⟨qB3, L, P, pa, lo, (by omega), (by omega), (by omega)⟩) ?_
    rintro _ qw4 ⟨rfl, ⟨gsqk6, nqk6, cqk6, ⟨Aqk6, Lqk6, Pqk6, paqk6, loqk6, iqk6, jqk6, lqk6⟩⟩, qh5⟩
    refine ⟨_, rfl, ?_⟩
    clear qB3 L P
    replace G := G.base qh5
    have qh5_s := qh5.size
    have Aqk6_l := Aqk6.lt
    have Lqk6_l := Lqk6.lt
    have Lqk6_o := Lqk6.low'
    have Pqk6_l := Pqk6.lt
    refine vE #[.pointer (some ⟨g, 0, none⟩),U,.pointer (some ⟨g, 0, none⟩),.pointer (some ⟨g, 0, none⟩),.pointer (some ⟨g, 0, none⟩),.pointer (some ⟨g, 0, none⟩),.pointer (some ⟨g, 0, none⟩),.pointer (some ⟨g, 0, none⟩),.pointer (some ⟨g, 0, none⟩),.pointer (some ⟨g, 2, none⟩),.int .u32 d.una,.pointer (some ⟨g, 0, none⟩),.pointer (some ⟨g, 3, none⟩),.pointer (some ⟨g, 0, none⟩),.pointer (some ⟨g, 0, none⟩),.pointer (some ⟨g, 5, none⟩),.int .i64 d.wnd,.bool false,.bool false,U,U,U,U,U,U,.bool false,U,U,U,U,U,U,U,U,.pointer (some ⟨g, 0, none⟩),.tuple #[]] ?_
    go_wp2_with (fail)
    refine bodyPost_end (v := .tuple #[]) (results_none rfl _ _ _) rfl ⟨rfl, ?_, G⟩
    rw [hX1.out]
    exact ⟨_, _, _, ⟨Aqk6, Lqk6, Pqk6, paqk6, loqk6, (by omega), (by omega), (by omega)⟩⟩
  case true =>
    by_cases he : d.oD = ByteArray.empty
    case pos =>
      have e0 : (d.oD.toList == []) = true := by rw [he, ByteArray.toList_eq]; rfl
      have hs : sb = false := hsb.out.trans (by unfold shutB; rw [decide_eq_true (show d.wnd = 0 by simpa using hb1.out.symm), decide_eq_true he]; rfl)
      subst hs
      have hX1 : Hid (backX ps now d xs = sendX ({ d with nxt := d.una }) ps now xs) := hX.out
      refine vR ?_
      refine vV (.pointer (some ⟨g, 0, none⟩)) ?_
      refine vV (.pointer (some ⟨g, 0, none⟩)) ?_
      refine vV (.pointer (some ⟨g, 5, none⟩)) ?_
      refine vD (.int .i64 d.wnd) (qB3.cell 5) ?_
      refine vV (.bool true) ?_ (hrun := by rw [show true = (d.wnd == 0) from hb1.out]; kernel_rfl)
      refine vV (.bool true) ?_
      refine vV (.pointer (some ⟨g, 0, none⟩)) ?_
      refine vV (.pointer (some ⟨g, 0, none⟩)) ?_
      refine vV (.pointer (some ⟨g, 8, none⟩)) ?_
      refine vV (.pointer (some ⟨g, 9, none⟩)) ?_
      refine vD (.string d.oD) (qB3.cell 9) ?_
      refine vV (.bool false) ?_ (hrun := by simp [execOp, go_sem, e0])
      refine vV (.bool false) ?_
      refine vE #[.pointer (some ⟨g, 0, none⟩),U,.pointer (some ⟨g, 0, none⟩),.pointer (some ⟨g, 0, none⟩),.pointer (some ⟨g, 0, none⟩),.pointer (some ⟨g, 0, none⟩),.pointer (some ⟨g, 0, none⟩),.pointer (some ⟨g, 0, none⟩),.pointer (some ⟨g, 0, none⟩),.pointer (some ⟨g, 2, none⟩),.int .u32 d.una,.pointer (some ⟨g, 0, none⟩),.pointer (some ⟨g, 3, none⟩),.pointer (some ⟨g, 0, none⟩),.pointer (some ⟨g, 0, none⟩),.pointer (some ⟨g, 5, none⟩),.int .i64 d.wnd,.bool true,.bool true,.pointer (some ⟨g, 0, none⟩),.pointer (some ⟨g, 0, none⟩),.pointer (some ⟨g, 8, none⟩),.pointer (some ⟨g, 9, none⟩),.string d.oD,.bool false,.bool false,U,U,U,U,U,U,U,U,U,U] ?_
      go_upto_region 4 with (fail)
      refine vR ?_
      refine vV (.pointer (some ⟨g, 0, none⟩)) ?_
      refine vC (implSend _ _ _ _ _ _ _ _ _ _ h0 h1 ms hx _ ⟨qB3, L, P, pa, lo, (by omega), (by omega), (by omega)⟩) ?_
      rintro _ qw4 ⟨rfl, ⟨gsqk6, nqk6, cqk6, ⟨Aqk6, Lqk6, Pqk6, paqk6, loqk6, iqk6, jqk6, lqk6⟩⟩, qh5⟩
      refine ⟨_, rfl, ?_⟩
      clear qB3 L P
      replace G := G.base qh5
      have qh5_s := qh5.size
      have Aqk6_l := Aqk6.lt
      have Lqk6_l := Lqk6.lt
      have Lqk6_o := Lqk6.low'
      have Pqk6_l := Pqk6.lt
      refine vE #[.pointer (some ⟨g, 0, none⟩),U,.pointer (some ⟨g, 0, none⟩),.pointer (some ⟨g, 0, none⟩),.pointer (some ⟨g, 0, none⟩),.pointer (some ⟨g, 0, none⟩),.pointer (some ⟨g, 0, none⟩),.pointer (some ⟨g, 0, none⟩),.pointer (some ⟨g, 0, none⟩),.pointer (some ⟨g, 2, none⟩),.int .u32 d.una,.pointer (some ⟨g, 0, none⟩),.pointer (some ⟨g, 3, none⟩),.pointer (some ⟨g, 0, none⟩),.pointer (some ⟨g, 0, none⟩),.pointer (some ⟨g, 5, none⟩),.int .i64 d.wnd,.bool true,.bool true,.pointer (some ⟨g, 0, none⟩),.pointer (some ⟨g, 0, none⟩),.pointer (some ⟨g, 8, none⟩),.pointer (some ⟨g, 9, none⟩),.string d.oD,.bool false,.bool false,U,U,U,U,U,U,U,U,.pointer (some ⟨g, 0, none⟩),.tuple #[]] ?_
      go_wp2_with (fail)
      refine bodyPost_end (v := .tuple #[]) (results_none rfl _ _ _) rfl ⟨rfl, ?_, G⟩
      rw [hX1.out]
      exact ⟨_, _, _, ⟨Aqk6, Lqk6, Pqk6, paqk6, loqk6, (by omega), (by omega), (by omega)⟩⟩
    case neg =>
      have e0 := noText he
      have hs : sb = true := hsb.out.trans (by unfold shutB; rw [decide_eq_true (show d.wnd = 0 by simpa using hb1.out.symm), decide_eq_false he]; rfl)
      subst hs
      have hX1 : Hid (backX ps now d xs = ({ { d with nxt := d.una } with agn := 0, prb := now + waitOf d.rA d.rS d.rV d.rD }, xs)) := hX.out
      refine vR ?_
      refine vV (.pointer (some ⟨g, 0, none⟩)) ?_
      refine vV (.pointer (some ⟨g, 0, none⟩)) ?_
      refine vV (.pointer (some ⟨g, 5, none⟩)) ?_
      refine vD (.int .i64 d.wnd) (qB3.cell 5) ?_
      refine vV (.bool true) ?_ (hrun := by rw [show true = (d.wnd == 0) from hb1.out]; kernel_rfl)
      refine vV (.bool true) ?_
      refine vV (.pointer (some ⟨g, 0, none⟩)) ?_
      refine vV (.pointer (some ⟨g, 0, none⟩)) ?_
      refine vV (.pointer (some ⟨g, 8, none⟩)) ?_
      refine vV (.pointer (some ⟨g, 9, none⟩)) ?_
      refine vD (.string d.oD) (qB3.cell 9) ?_
      refine vV (.bool true) ?_ (hrun := by simp [execOp, go_sem, e0])
      refine vV (.bool true) ?_
      refine vE #[.pointer (some ⟨g, 0, none⟩),U,.pointer (some ⟨g, 0, none⟩),.pointer (some ⟨g, 0, none⟩),.pointer (some ⟨g, 0, none⟩),.pointer (some ⟨g, 0, none⟩),.pointer (some ⟨g, 0, none⟩),.pointer (some ⟨g, 0, none⟩),.pointer (some ⟨g, 0, none⟩),.pointer (some ⟨g, 2, none⟩),.int .u32 d.una,.pointer (some ⟨g, 0, none⟩),.pointer (some ⟨g, 3, none⟩),.pointer (some ⟨g, 0, none⟩),.pointer (some ⟨g, 0, none⟩),.pointer (some ⟨g, 5, none⟩),.int .i64 d.wnd,.bool true,.bool true,.pointer (some ⟨g, 0, none⟩),.pointer (some ⟨g, 0, none⟩),.pointer (some ⟨g, 8, none⟩),.pointer (some ⟨g, 9, none⟩),.string d.oD,.bool true,.bool true,U,U,U,U,U,U,U,U,U,U] ?_
      go_upto_region 3 with (fail)
      refine vR ?_
      refine vV (.pointer (some ⟨g, 0, none⟩)) ?_
      refine vV (.pointer (some ⟨g, 0, none⟩)) ?_
      refine vV (.pointer (some ⟨g, 0, none⟩)) ?_
      refine vK (hfn _ _ _ qB3) ?_
      intro qw4 qg5
      replace qB3 := qB3.since qg5
      replace L := L.since qg5
      replace P := P.since qg5
      replace G := G.trans qg5
      have qg5_s := qg5.size
      refine vV (.pointer (some ⟨g, 0, none⟩)) ?_
      refine vV (.pointer (some ⟨g, 31, none⟩)) ?_
      refine sC (actCells { d with nxt := d.una, agn := 0 } now (.slice (some ⟨gs, 0, none⟩) n cap)) qB3 31 (.int .i64 0) (act_size _ _ _) ?_
      intro qw6 qt7 qB8
      clear qB3
      replace L := L.touch qt7 (by omega)
      replace P := P.touch qt7 (by omega)
      replace G := G.touch qt7 (by omega)
      have qt7_s := qt7.size
      refine vV (.pointer (some ⟨g, 0, none⟩)) ?_
      refine vV (.pointer (some ⟨g, 32, none⟩)) ?_
      refine sC (actCells { d with nxt := d.una, agn := 0, prb := (now + waitOf d.rA d.rS d.rV d.rD) } now (.slice (some ⟨gs, 0, none⟩) n cap)) qB8 32 (.int .i64 (now + waitOf d.rA d.rS d.rV d.rD)) (act_size _ _ _) ?_
      intro qw9 qt10 qB11
      clear qB8
      replace L := L.touch qt10 (by omega)
      replace P := P.touch qt10 (by omega)
      replace G := G.touch qt10 (by omega)
      have qt10_s := qt10.size
      refine vE #[.pointer (some ⟨g, 0, none⟩),U,.pointer (some ⟨g, 0, none⟩),.pointer (some ⟨g, 0, none⟩),.pointer (some ⟨g, 0, none⟩),.pointer (some ⟨g, 0, none⟩),.pointer (some ⟨g, 0, none⟩),.pointer (some ⟨g, 0, none⟩),.pointer (some ⟨g, 0, none⟩),.pointer (some ⟨g, 2, none⟩),.int .u32 d.una,.pointer (some ⟨g, 0, none⟩),.pointer (some ⟨g, 3, none⟩),.pointer (some ⟨g, 0, none⟩),.pointer (some ⟨g, 0, none⟩),.pointer (some ⟨g, 5, none⟩),.int .i64 d.wnd,.bool true,.bool true,.pointer (some ⟨g, 0, none⟩),.pointer (some ⟨g, 0, none⟩),.pointer (some ⟨g, 8, none⟩),.pointer (some ⟨g, 9, none⟩),.string d.oD,.bool true,.bool true,.pointer (some ⟨g, 0, none⟩),.pointer (some ⟨g, 0, none⟩),.pointer (some ⟨g, 0, none⟩),.int .i64 (now + waitOf d.rA d.rS d.rV d.rD),.pointer (some ⟨g, 0, none⟩),.pointer (some ⟨g, 31, none⟩),.pointer (some ⟨g, 0, none⟩),.pointer (some ⟨g, 32, none⟩),U,U] ?_
      go_wp2_with (fail)
      refine bodyPost_ret (v := .tuple #[]) (results_none rfl _ _ _) rfl ⟨rfl, ?_, G⟩
      rw [hX1.out]
      exact ⟨_, _, _, ⟨qB11, L, P, pa, lo, (by omega), (by omega), (by omega)⟩⟩
end Go.Proofs.YtfenlfijfjcdbaaGreat

namespace Go.Proofs.YtfenlfijfjcdbaaGreat
open Go.ChangeShapes Go.WideShapes Go.ChangeAt Go.RowKit
set_option linter.unusedVariables false
set_option maxRecDepth 10000

def synV (c : Cn) (ps : List (Int × ByteArray)) : Value := segVal 0 0 c.iss (if c.st = 2 then c.iN else 0) (if c.st = 2 then 18 else 2) (inRoomN c.iN c.iD c.iR ps) 100 ByteArray.empty

def synSg (c : Cn) (ps : List (Int × ByteArray)) : Sg := ⟨0, 0, c.iss, if c.st = 2 then c.iN else 0, if c.st = 2 then 18 else 2, inRoomN c.iN c.iD c.iR ps, 100, ByteArray.empty⟩

set_option maxRecDepth 20000 in
set_option maxHeartbeats 8000000 in
theorem specSyn (c : Cn) (ps : List (Int × ByteArray)) (gd : Good c.iN c.iD c.iR c.pn ps) (w : World) (R : Rd shP w c.pa c.pn ps) :
    Calls Tryz.prog 28 #[cnVal c] w fun e w' => e = .returned (synV c ps) ∧ Since w w' := by
  have hroom := fun wx Rx => specInRoom c.iN c.iD c.iR c.pa c.pn c.pc ps gd wx Rx
  unfold synV segVal inVal at *
  generalize inRoomN c.iN c.iD c.iR ps = q at hroom ⊢
  obtain ⟨ak, hak⟩ : ∃ ak, ak = (if c.st = 2 then c.iN else 0) := ⟨_, rfl⟩
  obtain ⟨fl, hfl⟩ : ∃ fl : Int, fl = (if c.st = 2 then 18 else 2) := ⟨_, rfl⟩
  rw [← hak, ← hfl]
  clear gd
  unfold cnVal
  go_enter Tryz.func28, Tryz.ntmps28
  go_upto_region 1 with (fail)
  have A := (Blk.new w (cnCells c) 42).since ((Since.refl _).alloc (.cells #[.int .i64 0, .int .i64 0, .int .u32 0, .int .u32 0, .int .i64 0, .int .i64 0, .int .i64 0, .string ⟨#[]⟩] 61))
  have Z := Blk.new (w.alloc (.cells (cnCells c) 42)) #[.int .i64 0, .int .i64 0, .int .u32 0, .int .u32 0, .int .i64 0, .int .i64 0, .int .i64 0, .string ⟨#[]⟩] 61
  rw [World.size_alloc] at Z
  have G := ((Since.refl w).alloc (.cells (cnCells c) 42)).alloc (.cells #[.int .i64 0, .int .i64 0, .int .u32 0, .int .u32 0, .int .i64 0, .int .i64 0, .int .i64 0, .string ⟨#[]⟩] 61)
  replace R := R.since G
  generalize (w.alloc (.cells (cnCells c) 42)).alloc (.cells #[.int .i64 0, .int .i64 0, .int .u32 0, .int .u32 0, .int .i64 0, .int .i64 0, .int .i64 0, .string ⟨#[]⟩] 61) = w1 at A Z G R ⊢
  have hZ := Z.lt
  refine wp_region_tail (wb := w1) 7 (fun i x v => match i with
      | 0 => v = .pointer (some ⟨w.heap.size, 1, none⟩)
      | 1 => v = .int .u32 c.iss
      | 2 => v = .pointer (some ⟨w.heap.size, 11, none⟩)
      | 3 => v = .agg #[.int .u32 c.iN, .string c.iD, .slice c.pa c.pn c.pc, .int .i64 c.iR]
      | 4 => v = .int .i64 q
      | 5 => v = .agg #[.int .i64 0, .int .i64 0, .int .u32 c.iss, .int .u32 0, .int .i64 2, .int .i64 q, .int .i64 100, .string ⟨#[]⟩]
      | 6 => ∃ g, v = .pointer (some ⟨g, 0, none⟩) ∧ w1.heap.size ≤ g ∧ Blk g x #[.int .i64 0, .int .i64 0, .int .u32 0, .int .u32 0, .int .i64 0, .int .i64 0, .int .i64 0, .string ⟨#[]⟩]
      | _ => True) (fun v => { tmps := #[Value.agg (cnCells c), Value.pointer (some ⟨w.heap.size, 0, none⟩), Value.pointer (some ⟨w.heap.size + 1, 0, none⟩), v 6, v 0, v 1, v 2, v 3, v 4, v 5, undef, undef, undef, undef, undef, undef, undef, undef, undef], defers := [] }) (by kernel_rfl) (by kernel_rfl) (by kernel_rfl) (Since.refl _) ?_ (fun vals => by kernel_rfl) ?_ ?_
  case refine_1 =>
    intro i x x' v h1 h2
    match i, h2 with
    | 6, ⟨g, e, l, B⟩ => exact ⟨g, e, l, B.since h1⟩
    | 0, h2 | 1, h2 | 2, h2 | 3, h2 | 4, h2 | 5, h2 => exact h2
    | n + 7, _ => trivial
  case refine_2 =>
    repeat (first | exact eachDoes_nil | refine eachDoes_cons ?_ ?_)
    all_goals intro vals x hx hv
    all_goals simp [Region.binds] at hv
    · simp [does, doesUpon, go_sem]
      exact ⟨(Since.refl _).alloc _, hx.size, Blk.new x _ _⟩
    · simp [does, doesUpon, go_sem, hv, Since.refl]
    · simp [does, doesUpon, go_sem, hv]
      refine (hroom x (R.since hx)).mono ?_
      rintro _ x' ⟨rfl, h1⟩
      simp [h1]
    · have B := A.since hx
      have f_iN : x.cell? ⟨w.heap.size, 11, none⟩ = some (.int .u32 c.iN) := B.cell 11
      have f_iD : x.cell? ⟨w.heap.size, 12, none⟩ = some (.string c.iD) := B.cell 12
      have f_iP : x.cell? ⟨w.heap.size, 13, none⟩ = some (.slice c.pa c.pn c.pc) := B.cell 13
      have f_iR : x.cell? ⟨w.heap.size, 14, none⟩ = some (.int .i64 c.iR) := B.cell 14
      simp [does, doesUpon, go_sem, hv, f_iN, f_iD, f_iP, f_iR, Since.refl]
    · simp [does, doesUpon, go_sem, Since.refl]
    · have B := A.since hx
      have f_iss : x.cell? ⟨w.heap.size, 1, none⟩ = some (.int .u32 c.iss) := B.cell 1
      simp [does, doesUpon, go_sem, hv, f_iss, Since.refl]
    · simp [does, doesUpon, go_sem, Since.refl]
  case refine_3 =>
    intro vals x hx hv
    obtain ⟨g, h6, hg, S⟩ := hv 6 (by decide)
    have h5 : vals 5 = _ := hv 5 (by decide)
    clear hv
    simp only [h5, h6]
    clear h5 h6
    refine store_big seg_big rfl rfl (seg_one _ _ _ _ _ _ _ _) S rfl _ _ rfl rfl rfl ?_
    intro y ty S
    replace A := (A.since hx).touch ty (by omega)
    replace Z := (Z.since hx).touch ty (by omega)
    replace G := since_touch (G.trans hx) ty (by omega)
    clear hx ty R hroom
    by_cases h2 : c.st = 2
    · simp only [h2, if_true] at hak hfl
      subst hak hfl
      have f_st : y.cell? ⟨w.heap.size, 0, none⟩ = some (.int .i64 2) := by rw [← h2]; exact A.cell 0
      have f_iN : y.cell? ⟨w.heap.size, 11, none⟩ = some (.int .u32 c.iN) := A.cell 11
      have s4 : y.cell? ⟨g, 4, none⟩ = some (.int .i64 2) := S.cell 4
      have z4 := S.fz 4
      obtain ⟨y1, e1, t1, S1⟩ : ∃ y1, y.setCell ⟨g, 4, none⟩ (.int .i64 18) = y1 ∧ Touch g y y1 ∧ Blk g y1 #[.int .i64 0, .int .i64 0, .int .u32 c.iss, .int .u32 0, .int .i64 18, .int .i64 q, .int .i64 100, .string ⟨#[]⟩] := ⟨_, rfl, (Touch.refl g y).put 4 _, S.put 4 _ (by simp)⟩
      replace A := A.touch t1 (by omega)
      replace Z := Z.touch t1 (by omega)
      replace G := since_touch G t1 (by omega)
      have f_iN1 : y1.cell? ⟨w.heap.size, 11, none⟩ = some (.int .u32 c.iN) := A.cell 11
      have s3 : y1.cell? ⟨g, 3, none⟩ = some (.int .u32 0) := S1.cell 3
      have z3 := S1.fz 3
      obtain ⟨y2, e2, t2, S2⟩ : ∃ y2, y1.setCell ⟨g, 3, none⟩ (.int .u32 c.iN) = y2 ∧ Touch g y1 y2 ∧ Blk g y2 #[.int .i64 0, .int .i64 0, .int .u32 c.iss, .int .u32 c.iN, .int .i64 18, .int .i64 q, .int .i64 100, .string ⟨#[]⟩] := ⟨_, rfl, (Touch.refl g y1).put 3 _, S1.put 3 _ (by simp)⟩
      replace Z := Z.touch t2 (by omega)
      replace G := since_touch G t2 (by omega)
      go_upto_region 5 with (fail)
      refine wp_region_lit ?_
      refine load_big seg_big rfl S2 rfl _ rfl rfl ?_
      refine store_big seg_big rfl rfl (seg_one _ _ _ _ _ _ _ _) Z rfl _ _ rfl rfl rfl ?_
      intro z tz Bz
      replace G := since_touch G tz (by omega)
      go_wp2_with (fail)
      exact bodyPost_ret (results_big seg_big rfl rfl _ rfl Bz) rfl ⟨rfl, G⟩
    · simp only [h2, if_false] at hak hfl
      subst hak hfl
      have f_st : y.cell? ⟨w.heap.size, 0, none⟩ = some (.int .i64 c.st) := A.cell 0
      have h3 : (c.st == 2) = false := by simpa using h2
      go_upto_region 5 with (fail)
      refine wp_region_lit ?_
      refine load_big seg_big rfl S rfl _ rfl rfl ?_
      refine store_big seg_big rfl rfl (seg_one _ _ _ _ _ _ _ _) Z rfl _ _ rfl rfl rfl ?_
      intro z tz Bz
      replace G := since_touch G tz (by omega)
      go_wp2_with (fail)
      exact bodyPost_ret (results_big seg_big rfl rfl _ rfl Bz) rfl ⟨rfl, G⟩
end Go.Proofs.YtfenlfijfjcdbaaGreat

namespace Go.Proofs.YtfenlfijfjcdbaaGreat
open Go.ChangeShapes Go.WideShapes Go.ChangeAt Go.RowKit
set_option linter.unusedVariables false
set_option maxRecDepth 10000

def andDone (f : Nat → Bool) (i : Nat) : Nat → Bool := fun j => if j = i then true else f j

def putVal (vals : Nat → Value) (i : Nat) (u : Value) : Nat → Value := fun j => if j = i then u else vals j

section
variable {P : Program} {ops : Array Oper} {Q : Exit → Act → World → Prop} {a0 : Act} {I : (Nat → Bool) → (Nat → Value) → World → Prop}

structure KeptD (ops : Array Oper) (a0 : Act) (I : (Nat → Bool) → (Nat → Value) → World → Prop) (listed : Array Bool) (vals : Nat → Value) (a : Act) (w : World) : Prop where
  inv : I (fun j => listed.getD j false) vals w
  defers : a.defers = a0.defers
  size : a.tmps.size = a0.tmps.size
  base : ∀ t : Nat, maker ops t = none → a.tmps[t]? = a0.tmps[t]?
  made : ∀ t j : Nat, maker ops t = some j → listed.getD j false = true → t < a0.tmps.size → a.tmps[t]? = some (vals j)

theorem done_set {listed : Array Bool} {i : Nat} (h : i < listed.size) : (fun j => (listed.setIfInBounds i true).getD j false) = andDone (fun j => listed.getD j false) i := by
  funext j
  unfold andDone
  by_cases hij : j = i
  · subst hij
    simp [h]
  · rw [if_neg hij, getD_set_ne false (Ne.symm hij)]

theorem KeptD.put {listed : Array Bool} {vals : Nat → Value} {a : Act} {w w' : World} (h : KeptD ops a0 I listed vals a w)
    (hs : settled ops a0.tmps.size = true) {i : Nat} {o : Oper} (ho : ops[i]? = some o) (hl : i < listed.size) {u : Value} (hw : I (andDone (fun j => listed.getD j false) i) (putVal vals i u) w') :
    KeptD ops a0 I (listed.setIfInBounds i true) (putVal vals i u) (a.put o.dst u) w' := by
  obtain ⟨_, _, hd, _⟩ := settled_at hs ho
  refine ⟨by rw [done_set hl]; exact hw, ?_, ?_, ?_, ?_⟩
  · cases hdst : o.dst <;> simp [Act.put, h.defers]
  · cases hdst : o.dst <;> simp [Act.put, h.size]
  · intro t ht
    cases hdst : o.dst with
    | none => exact h.base t ht
    | some d =>
      have hne : d ≠ t := fun e => by
        subst e
        rw [(hd d hdst).1] at ht
        cases ht
      simp only [Act.put, Array.getElem?_setIfInBounds_ne hne]
      exact h.base t ht
  · intro t j hj hl hlt
    by_cases hji : j = i
    · subst hji
      rw [show putVal vals j u j = u from if_pos rfl]
      have hdst : o.dst = some t := by
        have := List.find?_some hj
        simpa [ho] using this
      have hta : t < a.tmps.size := by rw [h.size]; exact hlt
      simp only [Act.put, hdst]
      simp [hta]
    · have hl' : listed.getD j false = true := (getD_set_or hl).resolve_left hji
      rw [show putVal vals i u j = vals j from if_neg hji]
      cases hdst : o.dst with
      | none => exact h.made t j hj hl' hlt
      | some d =>
        have hne : d ≠ t := fun e => by
          subst e
          rw [(hd d hdst).1] at hj
          exact hji (by simpa using hj.symm)
        simp only [Act.put, Array.getElem?_setIfInBounds_ne hne]
        exact h.made t j hj hl' hlt

theorem KeptD.exec {listed : Array Bool} {vals : Nat → Value} {a : Act} {w : World} (h : KeptD ops a0 I listed vals a w) (hs : settled ops a0.tmps.size = true)
    {i : Nat} {o : Oper} (ho : ops[i]? = some o) (hr : ∀ e ∈ o.after, Region.binds .any e = true → listed.getD e.on false = true) :
    execOp a.eval o = execOp (filled ops a0 vals).eval o := by
  obtain ⟨_, _, _, hx⟩ := settled_at hs ho
  refine execOp_congr o (fun cs b => Region.noSelect_spec (by simp only [settled, Bool.and_eq_true] at hs; exact hs.1) i o cs b ho) ?_
  intro x hxm
  cases x with
  | tmp t =>
    by_cases hlt : t < a0.tmps.size
    · have e1 : a.tmps[t]? = (filled ops a0 vals).tmps[t]? := by
        rw [filled_at _ _ _ hlt]
        cases hm : maker ops t with
        | none => rw [h.base t hm]; simp [hlt]
        | some k =>
          obtain ⟨e, he, hb, hk⟩ := hx t hxm k hm
          subst hk
          exact h.made t _ hm (hr e he hb) hlt
      simp [Act.eval, Array.getD_eq_getD_getElem?, e1]
    · have e1 : a.tmps[t]? = none := Array.getElem?_eq_none (by rw [h.size]; exact Nat.le_of_not_lt hlt)
      have e2 : (filled ops a0 vals).tmps[t]? = none := Array.getElem?_eq_none (by simp only [filled, Array.size_mapIdx]; exact Nat.le_of_not_lt hlt)
      simp [Act.eval, Array.getD_eq_getD_getElem?, e1, e2]
  | _ => rfl

theorem wpAny_done (hs : settled ops a0.tmps.size = true)
    (hop : ∀ i o, ops[i]? = some o → ∀ (f : Nat → Bool) vals w, f i = false → (∀ e ∈ o.after, Region.binds .any e = true → f e.on = true) → I f vals w → does P o (filled ops a0 vals) w fun v w' => I (andDone f i) (putVal vals i v) w')
    (hfin : ∀ (f : Nat → Bool) vals w, I f vals w → (∀ i, i < ops.size → f i = true) → Q .normal (filled ops a0 vals) w) :
    ∀ (fuel : Nat) (U : List Nat) (listed : Array Bool) (vals : Nat → Value) (a : Act) (w : World), listed.size = ops.size → (∀ j, j < ops.size → listed.getD j true = false → j ∈ U) → U.length ≤ fuel →
      KeptD ops a0 I listed vals a w → wpAny P .any ops Q fuel listed a w := by
  have fin : ∀ (listed : Array Bool) (vals : Nat → Value) (a : Act) (w : World), listed.size = ops.size → Region.ready .any ops listed = [] → KeptD ops a0 I listed vals a w → Q .normal a w := by
    intro listed vals a w hsz hr hk
    have hall : ∀ n j, j ≤ n → j < ops.size → listed.getD j false = true := by
      intro n
      induction n with
      | zero =>
        intro j hj hlt
        obtain rfl : j = 0 := by omega
        refine Classical.byContradiction fun hno => ?_
        have : 0 ∈ Region.ready .any ops listed := mem_ready.2 ⟨by simp [hsz, hlt] at hno ⊢; exact hno, ops[0], by simp [hlt], fun e he hb => by
          have := (settled_at hs (j := 0) (o := ops[0]) (by simp [hlt])).2.1 e he hb
          omega⟩
        rw [hr] at this
        cases this
      | succ n ih =>
        intro j hj hlt
        by_cases hjn : j ≤ n
        · exact ih j hjn hlt
        · refine Classical.byContradiction fun hno => ?_
          have : j ∈ Region.ready .any ops listed := mem_ready.2 ⟨by simp [hsz, hlt] at hno ⊢; exact hno, ops[j], by simp [hlt], fun e he hb => by
            have := (settled_at hs (j := j) (o := ops[j]) (by simp [hlt])).2.1 e he hb
            exact ih e.on (by omega) (by omega)⟩
          rw [hr] at this
          cases this
    have ha : a = filled ops a0 vals := by
      have ht : a.tmps = (filled ops a0 vals).tmps := by
        apply Array.ext_getElem?
        intro t
        by_cases hlt : t < a0.tmps.size
        · rw [filled_at _ _ _ hlt]
          cases hm : maker ops t with
          | none => rw [hk.base t hm]; simp [hlt]
          | some k =>
            have hk2 : k < ops.size := by
              have := List.mem_of_find?_eq_some hm
              simpa using this
            exact hk.made t k hm (hall k k (Nat.le_refl _) hk2) hlt
        · rw [Array.getElem?_eq_none (by rw [hk.size]; omega), Array.getElem?_eq_none (by simp [filled]; omega)]
      cases a
      simp only [filled] at ht ⊢
      have := hk.defers
      simp_all
    rw [ha]
    exact hfin _ vals w hk.inv (fun i hi => hall i i (Nat.le_refl _) hi)
  intro fuel
  induction fuel with
  | zero =>
    intro U listed vals a w hsz hU hl hk
    have hr : Region.ready .any ops listed = [] := by
      refine List.eq_nil_iff_forall_not_mem.2 fun j hj => ?_
      obtain ⟨h0, o, ho, _⟩ := mem_ready.1 hj
      have := hU j (Array.getElem?_eq_some_iff.1 ho).1 h0
      have hnil : U = [] := List.length_eq_zero_iff.1 (by omega)
      rw [hnil] at this
      cases this
    exact ⟨hr, fin listed vals a w hsz hr hk⟩
  | succ fuel ih =>
    intro U listed vals a w hsz hU hl hk
    refine ⟨fun hr => fin listed vals a w hsz hr hk, fun i hi => ?_⟩
    obtain ⟨h0, o, ho, hr⟩ := mem_ready.1 hi
    have hlt : i < ops.size := (Array.getElem?_eq_some_iff.1 ho).1
    have h0' : listed.getD i false = false := by
      have hi2 : i < listed.size := by omega
      simp [hi2] at h0 ⊢
      exact h0
    have hd := hop i o ho (fun j => listed.getD j false) vals w h0' (fun e he hb => hr e he hb) hk.inv
    have hnext : ∀ u w', I (andDone (fun j => listed.getD j false) i) (putVal vals i u) w' → wpAny P .any ops Q fuel (listed.setIfInBounds i true) (a.put o.dst u) w' := fun u w' h1 =>
      ih (U.erase i) _ _ _ _ (by simp [hsz]) (fun j hj hun => by
        have hji : j ≠ i := fun e => by
          subst e
          simp [hsz, hj] at hun
        rw [getD_set_ne true (Ne.symm hji)] at hun
        exact (List.mem_erase_of_ne hji).2 (hU j hj hun)) (by
        rw [List.length_erase_of_mem (hU i hlt h0)]
        omega) (hk.put hs ho (by omega) h1)
    unfold wpOp
    simp only [ho]
    have hg := (settled_at hs ho).1
    have hwant : Region.wanted o (yielded ops a.tmps) = true := by simp [Region.wanted, hg]
    rw [if_pos hwant]
    refine .inl ?_
    unfold does at hd
    rw [← hk.exec hs ho hr] at hd
    unfold Oper.wp
    generalize (execOp a.eval o).run P w = r at hd
    cases r with
    | ok n w' =>
      cases n <;> simp only [doesUpon] at hd <;> simp only [Oper.upon]
      case value u => exact hnext u w' hd
      case skip => exact hnext undef w' hd
      case enter f args => exact hd.mono fun e w'' ⟨v, he, h1⟩ => by subst he; exact hnext v w'' h1
    | halt x w' => simp only [doesUpon] at hd
end

def eachDoneV (P : Program) (I : (Nat → Bool) → (Nat → Value) → World → Prop) (F : (Nat → Value) → Act) : Nat → List Oper → Prop
  | _, [] => True
  | k, o :: rest => (∀ (f : Nat → Bool) vals x, f k = false → (∀ e ∈ o.after, Region.binds .any e = true → f e.on = true) → I f vals x → does P o (F vals) x fun v w' => I (andDone f k) (putVal vals k v) w') ∧ eachDoneV P I F (k + 1) rest

theorem eachDoneV_nil {P : Program} {I : (Nat → Bool) → (Nat → Value) → World → Prop} {F : (Nat → Value) → Act} {k : Nat} : eachDoneV P I F k [] := trivial

theorem eachDoneV_cons {P : Program} {I : (Nat → Bool) → (Nat → Value) → World → Prop} {F : (Nat → Value) → Act} {k : Nat} {o : Oper} {rest : List Oper} (h : eachDoneV P I F (k + 1) rest)
    (h1 : ∀ (f : Nat → Bool) vals x, f k = false → (∀ e ∈ o.after, Region.binds .any e = true → f e.on = true) → I f vals x → does P o (F vals) x fun v w' => I (andDone f k) (putVal vals k v) w') : eachDoneV P I F k (o :: rest) := ⟨h1, h⟩

theorem eachDoneV_at {P : Program} {I : (Nat → Bool) → (Nat → Value) → World → Prop} {F : (Nat → Value) → Act} : ∀ (l : List Oper) (k : Nat), eachDoneV P I F k l → ∀ i o, l[i]? = some o → ∀ (f : Nat → Bool) vals x, f (k + i) = false →
    (∀ e ∈ o.after, Region.binds .any e = true → f e.on = true) → I f vals x → does P o (F vals) x fun v w' => I (andDone f (k + i)) (putVal vals (k + i) v) w'
  | [], _, _, i, o, h => by cases h
  | o :: rest, k, h, 0, o', hi => by
    obtain rfl : o = o' := by simpa using hi
    exact h.1
  | o :: rest, k, h, i + 1, o', hi => by
    have := eachDoneV_at rest (k + 1) h.2 i o' (by simpa using hi)
    rw [show k + (i + 1) = k + 1 + i by omega]
    exact this

theorem wp_region_doneV {P : Program} {id : Nat} {Q : Exit → Act → World → Prop} {a : Act} {w : World} {l : List Oper} (I : (Nat → Bool) → (Nat → Value) → World → Prop) (F : (Nat → Value) → Act) (hm : P.follows .mixedOrders = true) (hs : settled l.toArray a.tmps.size = true) (h0 : ∀ (f : Nat → Bool) vals, (∀ j, f j = false) → I f vals w.drew)
    (hF : ∀ vals, F vals = filled l.toArray a vals) (hop : eachDoneV P I F 0 l)
    (hfin : ∀ (f : Nat → Bool) vals w, I f vals w → (∀ i, i < l.length → f i = true) → Q .normal (F vals) w) : (Code.region id l.toArray true).wp P Q a w := by
  refine wp_region_any hm (wpAny_done (I := I) (a0 := a) hs ?_ ?_ _ (List.range l.length) _ (fun _ => undef) _ _ (by simp) (fun j hj _ => by simpa using hj) (by simp) ⟨h0 _ _ (fun j => none_listed _ j), rfl, rfl, fun _ _ => rfl, ?_⟩)
  · intro i o ho f vals w hf hr hi
    have := eachDoneV_at l 0 hop i o (by simpa using ho) f vals w (by simpa using hf) hr hi
    rw [hF] at this
    simpa using this
  · intro f vals w hi hf
    have := hfin f vals w hi (fun i h => hf i (by simpa using h))
    rw [hF] at this
    exact this
  · intro t j _ hl
    rw [none_listed] at hl
    cases hl

def eachDone (P : Program) (V : Nat → Value → Prop) (I : (Nat → Bool) → World → Prop) (F : (Nat → Value) → Act) : Nat → List Oper → Prop
  | _, [] => True
  | k, o :: rest => (∀ (f : Nat → Bool) vals x, f k = false → (∀ e ∈ o.after, Region.binds .any e = true → f e.on = true) → I f x → (∀ j, f j = true → V j (vals j)) → does P o (F vals) x fun v w' => I (andDone f k) w' ∧ V k v) ∧ eachDone P V I F (k + 1) rest

theorem eachDone_nil {P : Program} {V : Nat → Value → Prop} {I : (Nat → Bool) → World → Prop} {F : (Nat → Value) → Act} {k : Nat} : eachDone P V I F k [] := trivial

theorem eachDone_cons {P : Program} {V : Nat → Value → Prop} {I : (Nat → Bool) → World → Prop} {F : (Nat → Value) → Act} {k : Nat} {o : Oper} {rest : List Oper} (h : eachDone P V I F (k + 1) rest)
    (h1 : ∀ (f : Nat → Bool) vals x, f k = false → (∀ e ∈ o.after, Region.binds .any e = true → f e.on = true) → I f x → (∀ j, f j = true → V j (vals j)) → does P o (F vals) x fun v w' => I (andDone f k) w' ∧ V k v) : eachDone P V I F k (o :: rest) := ⟨h1, h⟩

theorem doesUpon_mono {P : Program} {R S : Value → World → Prop} (h : ∀ v w, R v w → S v w) {r : Result Next} (k : doesUpon P R r) : doesUpon P S r := by
  cases r with
  | ok n w =>
    cases n <;> simp only [doesUpon] at k ⊢
    case value u => exact h _ _ k
    case skip => exact h _ _ k
    case enter f args => exact k.mono fun e w' ⟨v, he, q⟩ => ⟨v, he, h _ _ q⟩
    all_goals exact k
  | halt x w => simp only [doesUpon] at k

theorem eachDone_V {P : Program} {V : Nat → Value → Prop} {I : (Nat → Bool) → World → Prop} {F : (Nat → Value) → Act} : ∀ (l : List Oper) (k : Nat), eachDone P V I F k l → eachDoneV P (fun f vals x => I f x ∧ ∀ j, f j = true → V j (vals j)) F k l
  | [], _, _ => trivial
  | o :: rest, k, h => ⟨fun f vals x hf hr hi => doesUpon_mono (fun v w q => ⟨q.1, fun j hj => by
      by_cases e : j = k
      · subst e
        rw [show putVal vals j v j = v from if_pos rfl]
        exact q.2
      · rw [show putVal vals k v j = vals j from if_neg e]
        exact hi.2 j (by rw [show andDone f k j = f j from if_neg e] at hj; exact hj)⟩) (h.1 f vals x hf hr hi.1 hi.2), eachDone_V rest (k + 1) h.2⟩

theorem wp_region_done {P : Program} {id : Nat} {Q : Exit → Act → World → Prop} {a : Act} {w : World} {l : List Oper} (V : Nat → Value → Prop) (I : (Nat → Bool) → World → Prop) (F : (Nat → Value) → Act) (hm : P.follows .mixedOrders = true) (hs : settled l.toArray a.tmps.size = true) (h0 : ∀ f : Nat → Bool, (∀ j, f j = false) → I f w.drew)
    (hF : ∀ vals, F vals = filled l.toArray a vals) (hop : eachDone P V I F 0 l)
    (hfin : ∀ (f : Nat → Bool) vals w, I f w → (∀ i, i < l.length → f i = true) → (∀ i, i < l.length → V i (vals i)) → Q .normal (F vals) w) : (Code.region id l.toArray true).wp P Q a w :=
  wp_region_doneV (fun f vals x => I f x ∧ ∀ j, f j = true → V j (vals j)) F hm hs (fun f vals hf => ⟨h0 f hf, fun j hj => by rw [hf j] at hj; cases hj⟩) hF (eachDone_V l 0 hop) (fun f vals w hi hf => hfin f vals w hi.1 hf (fun i h => hi.2 i (hf i h)))
end Go.Proofs.YtfenlfijfjcdbaaGreat

namespace Go.Proofs.YtfenlfijfjcdbaaGreat
open Go.ChangeShapes Go.WideShapes Go.ChangeAt Go.RowKit Go.Deep
set_option linter.unusedVariables false
set_option maxRecDepth 10000

structure TickOk (d : Cn) (ps : List (Int × ByteArray)) : Prop where
  st : 0 ≤ d.st ∧ d.st ≤ 9
  w_una : IsWord d.una
  w_nxt : IsWord d.nxt
  w_mx : IsWord d.mx
  w_oF : IsWord d.oF
  hod : d.oD.size ≤ 1048576
  gd : Good d.iN d.iD d.iR d.pn ps
  wnd : 0 ≤ d.wnd ∧ d.wnd ≤ 65535
  rt : rttOk d.rA d.rS d.rV d.rD = true
  cg : congOk d.cX d.cT d.cD = true
  um : 0 ≤ distI d.una d.mx ∧ distI d.una d.mx ≤ 8000
  tr : 0 ≤ d.trs ∧ d.trs ≤ 10
  bk : distI d.una ((d.oF + (d.oD.size : Int)) % 4294967296) ≤ 100000
  ou : outOk d.oD d.oR = true

theorem tickOk_of {c : Cn} {ps : List (Int × ByteArray)} (gc : GoodC c ps) (h : connOk c ps = true) (a : Option Addr) (p : Nat) : TickOk { c with pa := a, pc := p } ps := by
  unfold connOk at h
  simp only [Bool.and_eq_true, decide_eq_true_eq, Bool.or_eq_true] at h
  obtain ⟨h1, h2, h3, h4, h5, h6, h7, h8, h9, h10, h11, h12, h13, h14, h15, h16⟩ := h
  have ho := (outOk_iff c.oD c.oR).1 h2
  have hu := gc.w_una
  have d2 := distI_is c.una ((c.oF + (c.oD.size : Int)) % 4294967296)
  refine ⟨h1, gc.w_una, gc.w_nxt, gc.w_mx, gc.w_oF, gc.hod, gc.gd, h6, h4, h5, ?_, ?_, ?_, h2⟩
  · show 0 ≤ distI c.una c.mx ∧ distI c.una c.mx ≤ 8000
    omega
  · show 0 ≤ c.trs ∧ c.trs ≤ 10
    omega
  show distI c.una ((c.oF + (c.oD.size : Int)) % 4294967296) ≤ 100000
  generalize distI c.una ((c.oF + (c.oD.size : Int)) % 4294967296) = q at *
  unfold IsDist at d2
  obtain ⟨u1, u2⟩ := hu
  have h16' : c.oF = c.una ∨ c.oF = (c.una + 1) % 4294967296 ∨ c.oF = (c.una - 1) % 4294967296 := by
    rcases h16 with h | h | h
    · exact .inl h
    · exact .inr (.inl h.2)
    · exact .inr (.inr h.2)
  clear h16 h1 h2 h3 h4 h5 h6 h7 h8 h9 h10 h11 h12 h13 h14 h15 gc
  rcases h16' with h | h | h <;> omega

theorem rtt_back {a : Bool} {s v h : Int} (k : rttOk a s v h = true) : rttOk a s v (min (h + 1) 8) = true := by
  unfold rttOk at k ⊢
  simp only [Bool.and_eq_true, decide_eq_true_eq, Bool.or_eq_true] at k ⊢
  obtain ⟨k1, k2, k3, k4⟩ := k
  exact ⟨k1, k2, by omega, k4⟩

theorem TickOk.probe {d : Cn} {ps : List (Int × ByteArray)} (t : TickOk d ps) (now : Int) (xs : List Sg) : TickOk (probeX ps now (d, xs)).1 ps := by
  unfold probeX
  split
  · refine ⟨t.st, t.w_una, t.w_nxt, ?_, t.w_oF, t.hod, t.gd, t.wnd, rtt_back t.rt, t.cg, ?_, t.tr, t.bk, t.ou⟩
    · show IsWord (pmxN d)
      unfold pmxN
      split
      · exact isWord_mod _
      · exact t.w_mx
    · show 0 ≤ distI d.una (pmxN d) ∧ distI d.una (pmxN d) ≤ 8000
      have h1 := t.um
      obtain ⟨u1, u2⟩ := t.w_una
      have d1 := distI_is d.una ((d.una + 1) % 4294967296)
      unfold pmxN
      split
      · unfold IsDist at d1
        omega
      · exact h1
  · exact ⟨t.st, t.w_una, t.w_nxt, t.w_mx, t.w_oF, t.hod, t.gd, t.wnd, t.rt, t.cg, t.um, t.tr, t.bk, t.ou⟩

theorem probe_len (ps : List (Int × ByteArray)) (now : Int) (p : Cn × List Sg) : (probeX ps now p).2.length ≤ p.2.length + 1 := by
  unfold probeX
  split
  · simp
  · simp

def triedC (d : Cn) (now : Int) : Cn := { d with trs := d.trs + 1, rD := min (d.rD + 1) 8, cX := 100, cT := max (uwN d / 2) 200, cD := 0, cF := false, cR := 0, tmg := false, agn := now + waitOf d.rA d.rS d.rV (min (d.rD + 1) 8) }

theorem mayS_tried {d : Cn} {ps : List (Int × ByteArray)} (t : TickOk d ps) (now : Int) : MayS (backD (triedC d now)) ps := by
  refine ⟨t.st, t.w_una, t.w_una, t.w_mx, t.w_oF, t.hod, t.gd, t.wnd, ?_, t.bk⟩
  show (0 : Int) ≤ 100 ∧ (100 : Int) ≤ 65535
  omega

def againX (ps : List (Int × ByteArray)) (now : Int) (d : Cn) (xs : List Sg) : Cn × List Sg :=
  if d.trs = 10 then (endC d 3, xs) else if d.st = 1 ∨ d.st = 2 then (triedC d now, xs ++ [synSg (triedC d now) ps]) else backX ps now (triedC d now) xs

def firstX (ps : List (Int × ByteArray)) (now : Int) (d : Cn) : Cn × List Sg := if dueB d.prb now then probeX ps now (d, []) else (d, [])

def tickX (ps : List (Int × ByteArray)) (now : Int) (d : Cn) : Cn × List Sg :=
  if d.st = 0 then (d, []) else if d.st = 9 ∧ d.rst ≤ now then (endC d 0, []) else
  if dueB (firstX ps now d).1.agn now then againX ps now (firstX ps now d).1 (firstX ps now d).2 else firstX ps now d

theorem TickOk.first {d : Cn} {ps : List (Int × ByteArray)} (t : TickOk d ps) (now : Int) : TickOk (firstX ps now d).1 ps := by
  unfold firstX
  split
  · exact t.probe now []
  · exact t

theorem first_len (ps : List (Int × ByteArray)) (now : Int) (d : Cn) : (firstX ps now d).2.length ≤ 1 := by
  unfold firstX
  split
  · exact probe_len ps now (d, [])
  · simp

def tryD (d : Cn) (rd ct : Int) (b1 b2 b3 : Bool) : Cn := { d with rD := cond b1 rd d.rD, cX := cond b2 100 d.cX, cT := cond b2 ct d.cT, cD := cond b2 0 d.cD, cF := cond b2 false d.cF, cR := cond b2 0 d.cR, tmg := cond b3 false d.tmg }

structure TryI (g : Nat) (d : Cn) (rd ct now : Int) (sv : Value) (wb : World) (f : Nat → Bool) (x : World) : Prop where
  touch : Touch g wb x
  first : f 19 = true ∨ f 22 = true ∨ f 25 = true → f 6 = true ∧ f 11 = true ∧ f 14 = true
  blk : Blk g x (actCells (tryD d rd ct (f 19) (f 22) (f 25)) now sv)

theorem andDone_ne {f : Nat → Bool} {i j : Nat} (h : j ≠ i) : andDone f i j = f j := if_neg h

theorem andDone_of {f : Nat → Bool} {i j : Nat} (h : f j = true) : andDone f i j = true := by
  unfold andDone
  split
  · rfl
  · exact h

theorem TryI.skip {g : Nat} {d : Cn} {rd ct now : Int} {sv : Value} {wb x : World} {f : Nat → Bool} (h : TryI g d rd ct now sv wb f x) (k : Nat) (h1 : 19 ≠ k) (h2 : 22 ≠ k) (h3 : 25 ≠ k) : TryI g d rd ct now sv wb (andDone f k) x := by
  refine ⟨h.touch, ?_, ?_⟩
  · rw [andDone_ne h1, andDone_ne h2, andDone_ne h3]
    intro q
    obtain ⟨a, b, c⟩ := h.first q
    exact ⟨andDone_of a, andDone_of b, andDone_of c⟩
  · rw [andDone_ne h1, andDone_ne h2, andDone_ne h3]
    exact h.blk

theorem TryI.since {g : Nat} {d : Cn} {rd ct now : Int} {sv : Value} {wb x y : World} {f : Nat → Bool} (h : TryI g d rd ct now sv wb f x) (s : Since x y) : TryI g d rd ct now sv wb f y := ⟨h.touch.trans (Touch.of_since s g), h.first, h.blk.since s⟩

theorem TryI.old {g : Nat} {d : Cn} {rd ct now : Int} {sv : Value} {wb x : World} {f : Nat → Bool} (h : TryI g d rd ct now sv wb f x) (hk : f 6 = false ∨ f 11 = false ∨ f 14 = false) : Blk g x (actCells d now sv) := by
  have no : ¬ (f 19 = true ∨ f 22 = true ∨ f 25 = true) := by
    intro q
    obtain ⟨a, b, c⟩ := h.first q
    rcases hk with hk | hk | hk <;> simp_all
  have e1 : f 19 = false := by cases e : f 19 <;> simp_all
  have e2 : f 22 = false := by cases e : f 22 <;> simp_all
  have e3 : f 25 = false := by cases e : f 25 <;> simp_all
  have B := h.blk
  rw [e1, e2, e3] at B
  exact B

theorem TryI.put19 {g : Nat} {d : Cn} {rd ct now : Int} {sv : Value} {wb x z : World} {f : Nat → Bool} (h : TryI g d rd ct now sv wb f x) (h1 : f 6 = true) (h2 : f 11 = true) (h3 : f 14 = true) (t : Touch g x z) (B : Blk g z (actCells (tryD d rd ct true (f 22) (f 25)) now sv)) : TryI g d rd ct now sv wb (andDone f 19) z := by
  refine ⟨h.touch.trans t, fun _ => ⟨andDone_of h1, andDone_of h2, andDone_of h3⟩, ?_⟩
  rw [show andDone f 19 19 = true from rfl, show andDone f 19 22 = f 22 from rfl, show andDone f 19 25 = f 25 from rfl]
  exact B

theorem TryI.put22 {g : Nat} {d : Cn} {rd ct now : Int} {sv : Value} {wb x z : World} {f : Nat → Bool} (h : TryI g d rd ct now sv wb f x) (h1 : f 6 = true) (h2 : f 11 = true) (h3 : f 14 = true) (t : Touch g x z) (B : Blk g z (actCells (tryD d rd ct (f 19) true (f 25)) now sv)) : TryI g d rd ct now sv wb (andDone f 22) z := by
  refine ⟨h.touch.trans t, fun _ => ⟨andDone_of h1, andDone_of h2, andDone_of h3⟩, ?_⟩
  rw [show andDone f 22 19 = f 19 from rfl, show andDone f 22 22 = true from rfl, show andDone f 22 25 = f 25 from rfl]
  exact B

theorem TryI.put25 {g : Nat} {d : Cn} {rd ct now : Int} {sv : Value} {wb x z : World} {f : Nat → Bool} (h : TryI g d rd ct now sv wb f x) (h1 : f 6 = true) (h2 : f 11 = true) (h3 : f 14 = true) (t : Touch g x z) (B : Blk g z (actCells (tryD d rd ct (f 19) (f 22) true) now sv)) : TryI g d rd ct now sv wb (andDone f 25) z := by
  refine ⟨h.touch.trans t, fun _ => ⟨andDone_of h1, andDone_of h2, andDone_of h3⟩, ?_⟩
  rw [show andDone f 25 19 = f 19 from rfl, show andDone f 25 22 = f 22 from rfl, show andDone f 25 25 = true from rfl]
  exact B
end Go.Proofs.YtfenlfijfjcdbaaGreat

namespace Go.Proofs.YtfenlfijfjcdbaaGreat
open Go.ChangeShapes Go.WideShapes Go.ChangeAt Go.RowKit
set_option linter.unusedVariables false
set_option maxRecDepth 10000

def synI (c : Cn) : Sg := ⟨0, 0, c.iss, if c.st = 2 then c.iN else 0, if c.st = 2 then 18 else 2, c.iR, 100, ByteArray.empty⟩

set_option maxRecDepth 20000 in
set_option maxHeartbeats 8000000 in
theorem implSyn (c : Cn) (w : World) :
    Calls Tryz.prog 92 #[cnVal c] w fun e w' => e = .returned (sgVal (synI c)) ∧ Since w w' := by
  unfold synI sgVal sgCells
  obtain ⟨ak, hak⟩ : ∃ ak, ak = (if c.st = 2 then c.iN else 0) := ⟨_, rfl⟩
  obtain ⟨fl, hfl⟩ : ∃ fl : Int, fl = (if c.st = 2 then 18 else 2) := ⟨_, rfl⟩
  simp only [← hak, ← hfl]
  unfold cnVal
  go_enter Tryz.func92, Tryz.ntmps92
  go_upto_region 1 with (fail)
  have A := (Blk.new w (cnCells c) 42).since ((Since.refl _).alloc (.cells #[.int .i64 0, .int .i64 0, .int .u32 0, .int .u32 0, .int .i64 0, .int .i64 0, .int .i64 0, .string ⟨#[]⟩] 61))
  have Z := Blk.new (w.alloc (.cells (cnCells c) 42)) #[.int .i64 0, .int .i64 0, .int .u32 0, .int .u32 0, .int .i64 0, .int .i64 0, .int .i64 0, .string ⟨#[]⟩] 61
  rw [World.size_alloc] at Z
  have G := ((Since.refl w).alloc (.cells (cnCells c) 42)).alloc (.cells #[.int .i64 0, .int .i64 0, .int .u32 0, .int .u32 0, .int .i64 0, .int .i64 0, .int .i64 0, .string ⟨#[]⟩] 61)
  generalize (w.alloc (.cells (cnCells c) 42)).alloc (.cells #[.int .i64 0, .int .i64 0, .int .u32 0, .int .u32 0, .int .i64 0, .int .i64 0, .int .i64 0, .string ⟨#[]⟩] 61) = w1 at A Z G ⊢
  have hZ := Z.lt
  have hA := A.lt
  have f_iss : w1.cell? ⟨w.heap.size, 1, none⟩ = some (.int .u32 c.iss) := A.cell 1
  have f_iR : w1.cell? ⟨w.heap.size, 14, none⟩ = some (.int .i64 c.iR) := A.cell 14
  refine wp_region_lit ?_
  refine step_val (w' := w1) rfl (.pointer (some ⟨w.heap.size, 1, none⟩)) (by kernel_rfl) ?_
  refine load_cell rfl _ _ rfl _ rfl _ f_iss (by kernel_rfl) ?_
  refine step_val (w' := w1) rfl (.pointer (some ⟨w.heap.size, 11, none⟩)) (by kernel_rfl) ?_
  refine step_val (w' := w1) rfl (.pointer (some ⟨w.heap.size, 14, none⟩)) (by kernel_rfl) ?_
  refine load_cell rfl _ _ rfl _ rfl _ f_iR (by kernel_rfl) ?_
  refine step_val (w' := w1) rfl (.agg #[.int .i64 0, .int .i64 0, .int .u32 c.iss, .int .u32 0, .int .i64 2, .int .i64 c.iR, .int .i64 100, .string ⟨#[]⟩]) (by kernel_rfl) ?_
  refine step_val (w' := w1.alloc (.cells #[.int .i64 0, .int .i64 0, .int .u32 0, .int .u32 0, .int .i64 0, .int .i64 0, .int .i64 0, .string ⟨#[]⟩] 61)) rfl (.pointer (some ⟨w1.heap.size, 0, none⟩)) (by kernel_rfl) ?_
  have S0 := Blk.new w1 #[.int .i64 0, .int .i64 0, .int .u32 0, .int .u32 0, .int .i64 0, .int .i64 0, .int .i64 0, .string ⟨#[]⟩] 61
  have g1 := (Since.refl w1).alloc (.cells #[.int .i64 0, .int .i64 0, .int .u32 0, .int .u32 0, .int .i64 0, .int .i64 0, .int .i64 0, .string ⟨#[]⟩] 61)
  replace A := A.since g1
  replace Z := Z.since g1
  replace G := G.trans g1
  have hg : w1.heap.size ≤ w1.heap.size := Nat.le_refl _
  obtain ⟨g, eg⟩ : ∃ g, g = w1.heap.size := ⟨_, rfl⟩
  refine store_big seg_big rfl rfl (seg_one _ _ _ _ _ _ _ _) S0 rfl _ _ rfl rfl rfl ?_
  intro y ty S
  rw [← eg] at ty S ⊢
  rw [← eg] at hZ hA
  clear f_iss f_iR S0 g1 hg eg
  replace A := A.touch ty (by omega)
  replace Z := Z.touch ty (by omega)
  replace G := since_touch G ty (by omega)
  clear ty
  by_cases h2 : c.st = 2
  · simp only [h2, if_true] at hak hfl
    subst hak hfl
    have f_st : y.cell? ⟨w.heap.size, 0, none⟩ = some (.int .i64 2) := by rw [← h2]; exact A.cell 0
    have f_iN : y.cell? ⟨w.heap.size, 11, none⟩ = some (.int .u32 c.iN) := A.cell 11
    have s4 : y.cell? ⟨g, 4, none⟩ = some (.int .i64 2) := S.cell 4
    have z4 := S.fz 4
    have s3' : y.cell? ⟨g, 3, none⟩ = some (.int .u32 0) := S.cell 3
    have z3' := S.fz 3
    obtain ⟨y1, e1, t1, S1⟩ : ∃ y1, y.setCell ⟨g, 4, none⟩ (.int .i64 18) = y1 ∧ Touch g y y1 ∧ Blk g y1 #[.int .i64 0, .int .i64 0, .int .u32 c.iss, .int .u32 0, .int .i64 18, .int .i64 c.iR, .int .i64 100, .string ⟨#[]⟩] := ⟨_, rfl, (Touch.refl g y).put 4 _, S.put 4 _ (by simp)⟩
    replace A := A.touch t1 (by omega)
    replace Z := Z.touch t1 (by omega)
    replace G := since_touch G t1 (by omega)
    have s3 : y1.cell? ⟨g, 3, none⟩ = some (.int .u32 0) := S1.cell 3
    have z3 := S1.fz 3
    obtain ⟨y2, e2, t2, S2⟩ : ∃ y2, y1.setCell ⟨g, 3, none⟩ (.int .u32 c.iN) = y2 ∧ Touch g y1 y2 ∧ Blk g y2 #[.int .i64 0, .int .i64 0, .int .u32 c.iss, .int .u32 c.iN, .int .i64 18, .int .i64 c.iR, .int .i64 100, .string ⟨#[]⟩] := ⟨_, rfl, (Touch.refl g y1).put 3 _, S1.put 3 _ (by simp)⟩
    replace Z := Z.touch t2 (by omega)
    replace G := since_touch G t2 (by omega)
    go_upto_region 3 with (fail)
    go_region
    rw [show bits BinOp.or IntKind.i64 2 16 = 18 by kernel_rfl, e1, e2]
    have gd := (Since.refl y2).drew
    replace S2 := S2.since gd
    replace Z := Z.since gd
    replace G := G.trans gd
    generalize y2.drew = y3 at S2 Z G ⊢
    clear gd e1 e2 t1 t2 S1 A s3 z3 s3' z3' s4 z4 f_iN f_st S
    go_upto_region 4 with (fail)
    refine wp_region_lit ?_
    refine load_big seg_big rfl S2 rfl _ rfl rfl ?_
    refine store_big seg_big rfl rfl (seg_one _ _ _ _ _ _ _ _) Z rfl _ _ rfl rfl rfl ?_
    intro z tz Bz
    replace G := since_touch G tz (by omega)
    go_wp2_with (fail)
    exact bodyPost_ret (results_big seg_big rfl rfl _ rfl Bz) rfl ⟨rfl, G⟩
  · simp only [h2, if_false] at hak hfl
    subst hak hfl
    have f_st : y.cell? ⟨w.heap.size, 0, none⟩ = some (.int .i64 c.st) := A.cell 0
    have h3 : (c.st == 2) = false := by simpa using h2
    go_upto_region 4 with (fail)
    refine wp_region_lit ?_
    refine load_big seg_big rfl S rfl _ rfl rfl ?_
    refine store_big seg_big rfl rfl (seg_one _ _ _ _ _ _ _ _) Z rfl _ _ rfl rfl rfl ?_
    intro z tz Bz
    replace G := since_touch G tz (by omega)
    go_wp2_with (fail)
    exact bodyPost_ret (results_big seg_big rfl rfl _ rfl Bz) rfl ⟨rfl, G⟩
end Go.Proofs.YtfenlfijfjcdbaaGreat
