/-
  What is due by a tick, as impl does it.
-/
import Derived.Test.YtfenlfijfjcdbaaGreatM7
import Derived.Test.YtfenlfijfjcdbaaGreatTick11C
import Derived.Test.YtfenlfijfjcdbaaGreatSend11I
import Derived.Deep.DeepCutAuto
namespace Go.Proofs.YtfenlfijfjcdbaaGreat
open Go.ChangeShapes Go.WideShapes Go.ChangeAt Go.RowKit
set_option linter.unusedVariables false
set_option maxRecDepth 10000

theorem probe_at {ps : List (Int × ByteArray)} {now : Int} (d : Cn) (xs : List Sg) (a : Option Addr) (p : Nat) : probeX ps now ({ d with pa := a, pc := p }, xs) = ({ (probeX ps now (d, xs)).1 with pa := a, pc := p }, (probeX ps now (d, xs)).2) := by
  unfold probeX
  rw [show npB ({ d with pa := a, pc := p }, xs).1 = npB d from rfl, show npB (d, xs).1 = npB d from rfl]
  cases npB d <;> rfl

theorem back_at {ps : List (Int × ByteArray)} {now : Int} (d : Cn) (xs : List Sg) (a : Option Addr) (p : Nat) : backX ps now { d with pa := a, pc := p } xs = ({ (backX ps now d xs).1 with pa := a, pc := p }, (backX ps now d xs).2) := by
  unfold backX
  rw [show shutB { d with pa := a, pc := p } = shutB d from rfl]
  cases shutB d
  · exact sends_at (c := backD d) (x0 := xs) a p
  · rfl

theorem again_at {ps : List (Int × ByteArray)} {now : Int} (d : Cn) (xs : List Sg) (a : Option Addr) (p : Nat) : againX ps now { d with pa := a, pc := p } xs = ({ (againX ps now d xs).1 with pa := a, pc := p }, (againX ps now d xs).2) := by
  unfold againX
  by_cases h1 : d.trs = 10
  · rw [if_pos (show ({ d with pa := a, pc := p } : Cn).trs = 10 from h1), if_pos h1]
    rfl
  · rw [if_neg (show ¬ ({ d with pa := a, pc := p } : Cn).trs = 10 from h1), if_neg h1]
    by_cases h2 : d.st = 1 ∨ d.st = 2
    · rw [if_pos (show ({ d with pa := a, pc := p } : Cn).st = 1 ∨ ({ d with pa := a, pc := p } : Cn).st = 2 from h2), if_pos h2]
      rfl
    · rw [if_neg (show ¬ (({ d with pa := a, pc := p } : Cn).st = 1 ∨ ({ d with pa := a, pc := p } : Cn).st = 2) from h2), if_neg h2]
      exact back_at (triedC d now) xs a p

theorem first_at {ps : List (Int × ByteArray)} {now : Int} (d : Cn) (a : Option Addr) (p : Nat) : firstX ps now { d with pa := a, pc := p } = ({ (firstX ps now d).1 with pa := a, pc := p }, (firstX ps now d).2) := by
  unfold firstX
  rw [show dueB ({ d with pa := a, pc := p } : Cn).prb now = dueB d.prb now from rfl]
  cases dueB d.prb now
  · rfl
  · exact probe_at d [] a p

theorem tick_at {ps : List (Int × ByteArray)} {now : Int} (d : Cn) (a : Option Addr) (p : Nat) : tickX ps now { d with pa := a, pc := p } = ({ (tickX ps now d).1 with pa := a, pc := p }, (tickX ps now d).2) := by
  unfold tickX
  by_cases h1 : d.st = 0
  · rw [if_pos (show ({ d with pa := a, pc := p } : Cn).st = 0 from h1), if_pos h1]
  · rw [if_neg (show ¬ ({ d with pa := a, pc := p } : Cn).st = 0 from h1), if_neg h1]
    by_cases h2 : d.st = 9 ∧ d.rst ≤ now
    · rw [if_pos (show ({ d with pa := a, pc := p } : Cn).st = 9 ∧ ({ d with pa := a, pc := p } : Cn).rst ≤ now from h2), if_pos h2]
      rfl
    · rw [if_neg (show ¬ (({ d with pa := a, pc := p } : Cn).st = 9 ∧ ({ d with pa := a, pc := p } : Cn).rst ≤ now) from h2), if_neg h2, first_at]
      show (if dueB (firstX ps now d).1.agn now = true then againX ps now { (firstX ps now d).1 with pa := a, pc := p } (firstX ps now d).2 else ({ (firstX ps now d).1 with pa := a, pc := p }, (firstX ps now d).2)) = _
      cases dueB (firstX ps now d).1.agn now
      · rfl
      · exact again_at _ _ a p

theorem probe_pn (ps : List (Int × ByteArray)) (now : Int) (q : Cn × List Sg) : (probeX ps now q).1.pn = q.1.pn := by
  unfold probeX
  split <;> rfl

theorem first_pn (ps : List (Int × ByteArray)) (now : Int) (d : Cn) : (firstX ps now d).1.pn = d.pn := by
  unfold firstX
  split
  · exact probe_pn ps now (d, [])
  · rfl

theorem again_pn (ps : List (Int × ByteArray)) (now : Int) (d : Cn) (xs : List Sg) : (againX ps now d xs).1.pn = d.pn := by
  unfold againX
  split
  · rfl
  · split
    · rfl
    · unfold backX
      split
      · rfl
      · exact sendX_pn _ _ _ _

theorem tick_pn (ps : List (Int × ByteArray)) (now : Int) (d : Cn) : (tickX ps now d).1.pn = d.pn := by
  unfold tickX
  split
  · rfl
  · split
    · rfl
    · split
      · rw [again_pn, first_pn]
      · exact first_pn ps now d

set_option maxRecDepth 20000 in
set_option maxHeartbeats 8000000 in
theorem implTick (B g pg : Nat) (now : Int) (ps : List (Int × ByteArray)) (d : Cn) (gs n cap : Nat) (xs : List Sg) (h0 : 0 ≤ now) (h1 : now ≤ 1000000000) (hxs : xs = []) (ok : TickOk d ps) (w : World) (a : Acts B g pg now ps d gs n cap xs w) :
    Calls Tryz.prog 37 #[.pointer (some ⟨g, 0, none⟩)] w fun e w' => e = .returned (.tuple #[]) ∧ ActsX B g pg now ps ((tickX ps now d).1) ((tickX ps now d).2) w' ∧ Base B w w' := by
  subst hxs
  obtain ⟨A, L, P, pa, lo, i, j, l⟩ := a
  have hA := A.lt
  have hL := L.lt
  have hLo := L.low'
  have hP := P.lt
  have hPo := P.low'
  have G : Base B w w := Base.refl (by omega)
  have hlen := L.len
  have hst := ok.st
  have hd1 := fun (dd : Cn) sv' at' wx Ax => implIsDue g dd now sv' at' wx Ax
  obtain ⟨b0, hb0⟩ : ∃ q, Hid (q = (d.st == 0)) := ⟨_, rfl⟩
  obtain ⟨b9, hb9⟩ : ∃ q, Hid (q = (d.st == 9)) := ⟨_, rfl⟩
  obtain ⟨bR, hbR⟩ : ∃ q, Hid (q = decide (d.rst ≤ now)) := ⟨_, rfl⟩
  obtain ⟨TX, hTX⟩ : ∃ q, Hid (q = tickX ps now d) := ⟨_, rfl⟩
  rw [← hTX.out]
  go_enter Tryz.func37, Tryz.ntmps37
  go_upto_region 1 with (fail)
  refine vR ?_
  refine vV (.pointer (some ⟨g, 0, none⟩)) ?_
  refine vV (.pointer (some ⟨g, 0, none⟩)) ?_
  refine vV (.pointer (some ⟨g, 0, none⟩)) ?_
  refine vD (.int .i64 d.st) (A.cell 0) ?_
  refine vE #[.pointer (some ⟨g, 0, none⟩),U,.pointer (some ⟨g, 0, none⟩),.pointer (some ⟨g, 0, none⟩),.pointer (some ⟨g, 0, none⟩),.pointer (some ⟨g, 0, none⟩),.pointer (some ⟨g, 0, none⟩),.pointer (some ⟨g, 0, none⟩),.pointer (some ⟨g, 0, none⟩),.int .i64 d.st,U,U,U,U,U,U,U,U,U,U,U,U,U,U,U,U,U,U,U,U,U,U,U,U,U,U,U,U,U,U,U] ?_
  go_upto_region 2 with (fail)
  cases b0
  case true =>
    refine vR ?_
    refine vV (.bool true) ?_ (hrun := by rw [show true = (d.st == 0) from hb0.out]; kernel_rfl)
    refine vV (.bool true) ?_
    refine vE #[.pointer (some ⟨g, 0, none⟩),U,.pointer (some ⟨g, 0, none⟩),.pointer (some ⟨g, 0, none⟩),.pointer (some ⟨g, 0, none⟩),.pointer (some ⟨g, 0, none⟩),.pointer (some ⟨g, 0, none⟩),.pointer (some ⟨g, 0, none⟩),.pointer (some ⟨g, 0, none⟩),.int .i64 d.st,.bool true,.bool true,U,U,U,U,U,U,U,U,U,U,U,U,U,U,U,U,U,U,U,U,U,U,U,U,U,U,U,U,U] ?_
    have hs : d.st = 0 := by simpa using hb0.out.symm
    have hX : TX = (d, []) := hTX.out.trans (if_pos hs)
    go_wp2_with (fail)
    refine bodyPost_ret (v := .tuple #[]) (results_none rfl _ _ _) rfl ⟨rfl, ?_, G⟩
    rw [hX]
    exact ⟨_, _, _, ⟨A, L, P, pa, lo, (by omega), (by omega), (by omega)⟩⟩
  case false =>
    refine vR ?_
    refine vV (.bool false) ?_ (hrun := by rw [show false = (d.st == 0) from hb0.out]; kernel_rfl)
    refine vV (.bool false) ?_
    refine vE #[.pointer (some ⟨g, 0, none⟩),U,.pointer (some ⟨g, 0, none⟩),.pointer (some ⟨g, 0, none⟩),.pointer (some ⟨g, 0, none⟩),.pointer (some ⟨g, 0, none⟩),.pointer (some ⟨g, 0, none⟩),.pointer (some ⟨g, 0, none⟩),.pointer (some ⟨g, 0, none⟩),.int .i64 d.st,.bool false,.bool false,U,U,U,U,U,U,U,U,U,U,U,U,U,U,U,U,U,U,U,U,U,U,U,U,U,U,U,U,U] ?_
    go_upto_region 3 with (fail)
    have hs0 : ¬ d.st = 0 := by simpa using hb0.out.symm
    have hX0 : Hid (TX = if d.st = 9 ∧ d.rst ≤ now then (endC d 0, []) else if dueB (firstX ps now d).1.agn now then againX ps now (firstX ps now d).1 (firstX ps now d).2 else firstX ps now d) := hTX.out.trans (if_neg hs0)
    clear hs0 hTX
    cases b9
    case true =>
      refine vR ?_
      refine vV (.bool true) ?_ (hrun := by rw [show true = (d.st == 9) from hb9.out]; kernel_rfl)
      refine vV (.bool true) ?_
      refine vE #[.pointer (some ⟨g, 0, none⟩),U,.pointer (some ⟨g, 0, none⟩),.pointer (some ⟨g, 0, none⟩),.pointer (some ⟨g, 0, none⟩),.pointer (some ⟨g, 0, none⟩),.pointer (some ⟨g, 0, none⟩),.pointer (some ⟨g, 0, none⟩),.pointer (some ⟨g, 0, none⟩),.int .i64 d.st,.bool false,.bool false,.bool true,.bool true,U,U,U,U,U,U,U,U,U,U,U,U,U,U,U,U,U,U,U,U,U,U,U,U,U,U,U] ?_
      go_upto_region 4 with (fail)
      have hs9 : d.st = 9 := by simpa using hb9.out.symm
      cases bR
      case true =>
        refine wp_region_qs (wb := w) (by kernel_rfl) (by kernel_rfl) (Since.refl _) ?_
        refine q_val (by kernel_rfl) (.pointer (some ⟨g, 0, none⟩)) (fun x hx => by kernel_rfl) ?_
        refine q_val (by kernel_rfl) (.pointer (some ⟨g, 0, none⟩)) (fun x hx => by kernel_rfl) ?_
        refine q_val (by kernel_rfl) (.pointer (some ⟨g, 33, none⟩)) (fun x hx => by kernel_rfl) ?_
        refine q_cell (by kernel_rfl) _ _ rfl ⟨g, 33, none⟩ (by kernel_rfl) (.int .i64 d.rst) (fun y hy => (A.since hy).cell 33) (fun y => by kernel_rfl) ?_
        refine q_val (by kernel_rfl) (.pointer (some ⟨g, 0, none⟩)) (fun x hx => by kernel_rfl) ?_
        refine q_val (by kernel_rfl) (.pointer (some ⟨g, 0, none⟩)) (fun x hx => by kernel_rfl) ?_
        refine q_val (by kernel_rfl) (.pointer (some ⟨g, 37, none⟩)) (fun x hx => by kernel_rfl) ?_
        refine q_cell (by kernel_rfl) _ _ rfl ⟨g, 37, none⟩ (by kernel_rfl) (.int .i64 now) (fun y hy => (A.since hy).cell 37) (fun y => by kernel_rfl) ?_
        refine q_val (by kernel_rfl) (.bool true) (fun x hx => by rw [show true = decide (d.rst ≤ now) from hbR.out]; kernel_rfl) ?_
        refine q_frame (a' := { tmps := #[.pointer (some ⟨g, 0, none⟩),U,.pointer (some ⟨g, 0, none⟩),.pointer (some ⟨g, 0, none⟩),.pointer (some ⟨g, 0, none⟩),.pointer (some ⟨g, 0, none⟩),.pointer (some ⟨g, 0, none⟩),.pointer (some ⟨g, 0, none⟩),.pointer (some ⟨g, 0, none⟩),.int .i64 d.st,.bool false,.bool false,.bool true,.bool true,.pointer (some ⟨g, 0, none⟩),.pointer (some ⟨g, 0, none⟩),.pointer (some ⟨g, 33, none⟩),.int .i64 d.rst,.pointer (some ⟨g, 0, none⟩),.pointer (some ⟨g, 0, none⟩),.pointer (some ⟨g, 37, none⟩),.int .i64 now,.bool true,U,U,U,U,U,U,U,U,U,U,U,U,U,U,U,U,U,U], defers := [] }) (by kernel_rfl) ?_
        refine q_nil ?_
        intro qw1 qh2
        replace A := A.since qh2
        replace L := L.since qh2
        replace P := P.since qh2
        replace G := G.trans qh2
        have qh2_s := qh2.size
        go_upto_region 5 with (fail)
        refine vR ?_
        refine vV (.pointer (some ⟨g, 0, none⟩)) ?_
        refine vC (implFinish _ _ _ _ _ _ _ _ _ _ 0 _ ⟨A, L, P, pa, lo, (by omega), (by omega), (by omega)⟩) ?_
        rintro _ qw3 ⟨rfl, ⟨gsqk5, nqk5, cqk5, ⟨Aqk5, Lqk5, Pqk5, paqk5, loqk5, iqk5, jqk5, lqk5⟩⟩, qh4⟩
        refine ⟨_, rfl, ?_⟩
        clear A L P
        replace G := G.base qh4
        have qh4_s := qh4.size
        have Aqk5_l := Aqk5.lt
        have Lqk5_l := Lqk5.lt
        have Lqk5_o := Lqk5.low'
        have Pqk5_l := Pqk5.lt
        refine vE #[.pointer (some ⟨g, 0, none⟩),U,.pointer (some ⟨g, 0, none⟩),.pointer (some ⟨g, 0, none⟩),.pointer (some ⟨g, 0, none⟩),.pointer (some ⟨g, 0, none⟩),.pointer (some ⟨g, 0, none⟩),.pointer (some ⟨g, 0, none⟩),.pointer (some ⟨g, 0, none⟩),.int .i64 d.st,.bool false,.bool false,.bool true,.bool true,.pointer (some ⟨g, 0, none⟩),.pointer (some ⟨g, 0, none⟩),.pointer (some ⟨g, 33, none⟩),.int .i64 d.rst,.pointer (some ⟨g, 0, none⟩),.pointer (some ⟨g, 0, none⟩),.pointer (some ⟨g, 37, none⟩),.int .i64 now,.bool true,.pointer (some ⟨g, 0, none⟩),.tuple #[],U,U,U,U,U,U,U,U,U,U,U,U,U,U,U,U] ?_
        have hX : TX = (endC d 0, []) := hX0.out.trans (if_pos ⟨hs9, by simpa using hbR.out.symm⟩)
        go_wp2_with (fail)
        refine bodyPost_ret (v := .tuple #[]) (results_none rfl _ _ _) rfl ⟨rfl, ?_, G⟩
        rw [hX]
        exact ⟨_, _, _, ⟨Aqk5, Lqk5, Pqk5, paqk5, loqk5, (by omega), (by omega), (by omega)⟩⟩
      case false =>
        refine wp_region_qs (wb := w) (by kernel_rfl) (by kernel_rfl) (Since.refl _) ?_
        refine q_val (by kernel_rfl) (.pointer (some ⟨g, 0, none⟩)) (fun x hx => by kernel_rfl) ?_
        refine q_val (by kernel_rfl) (.pointer (some ⟨g, 0, none⟩)) (fun x hx => by kernel_rfl) ?_
        refine q_val (by kernel_rfl) (.pointer (some ⟨g, 33, none⟩)) (fun x hx => by kernel_rfl) ?_
        refine q_cell (by kernel_rfl) _ _ rfl ⟨g, 33, none⟩ (by kernel_rfl) (.int .i64 d.rst) (fun y hy => (A.since hy).cell 33) (fun y => by kernel_rfl) ?_
        refine q_val (by kernel_rfl) (.pointer (some ⟨g, 0, none⟩)) (fun x hx => by kernel_rfl) ?_
        refine q_val (by kernel_rfl) (.pointer (some ⟨g, 0, none⟩)) (fun x hx => by kernel_rfl) ?_
        refine q_val (by kernel_rfl) (.pointer (some ⟨g, 37, none⟩)) (fun x hx => by kernel_rfl) ?_
        refine q_cell (by kernel_rfl) _ _ rfl ⟨g, 37, none⟩ (by kernel_rfl) (.int .i64 now) (fun y hy => (A.since hy).cell 37) (fun y => by kernel_rfl) ?_
        refine q_val (by kernel_rfl) (.bool false) (fun x hx => by rw [show false = decide (d.rst ≤ now) from hbR.out]; kernel_rfl) ?_
        refine q_frame (a' := { tmps := #[.pointer (some ⟨g, 0, none⟩),U,.pointer (some ⟨g, 0, none⟩),.pointer (some ⟨g, 0, none⟩),.pointer (some ⟨g, 0, none⟩),.pointer (some ⟨g, 0, none⟩),.pointer (some ⟨g, 0, none⟩),.pointer (some ⟨g, 0, none⟩),.pointer (some ⟨g, 0, none⟩),.int .i64 d.st,.bool false,.bool false,.bool true,.bool true,.pointer (some ⟨g, 0, none⟩),.pointer (some ⟨g, 0, none⟩),.pointer (some ⟨g, 33, none⟩),.int .i64 d.rst,.pointer (some ⟨g, 0, none⟩),.pointer (some ⟨g, 0, none⟩),.pointer (some ⟨g, 37, none⟩),.int .i64 now,.bool false,U,U,U,U,U,U,U,U,U,U,U,U,U,U,U,U,U,U], defers := [] }) (by kernel_rfl) ?_
        refine q_nil ?_
        intro qw1 qh2
        replace A := A.since qh2
        replace L := L.since qh2
        replace P := P.since qh2
        replace G := G.trans qh2
        have qh2_s := qh2.size
        have hX2 : TX = if dueB (firstX ps now d).1.agn now then againX ps now (firstX ps now d).1 (firstX ps now d).2 else firstX ps now d := hX0.out.trans (if_neg (by rintro ⟨-, q⟩; have := hbR.out; simp [q] at this))
        clear hX0 hs9
        go_upto_region 6 with (fail)
        obtain ⟨bp, hbp⟩ : ∃ q, Hid (q = dueB d.prb now) := ⟨_, rfl⟩
        have hdp := fun sv' wx Ax => hd1 d sv' d.prb wx Ax
        rw [← hbp.out] at hdp
        cases bp
        case false =>
          refine vR ?_
          refine vV (.pointer (some ⟨g, 0, none⟩)) ?_
          refine vV (.pointer (some ⟨g, 0, none⟩)) ?_
          refine vV (.pointer (some ⟨g, 0, none⟩)) ?_
          refine vV (.pointer (some ⟨g, 32, none⟩)) ?_
          refine vD (.int .i64 d.prb) (A.cell 32) ?_
          refine vK (hdp _ _ A) ?_
          intro qw3 qg4
          replace A := A.since qg4
          replace L := L.since qg4
          replace P := P.since qg4
          replace G := G.trans qg4
          have qg4_s := qg4.size
          refine vE #[.pointer (some ⟨g, 0, none⟩),U,.pointer (some ⟨g, 0, none⟩),.pointer (some ⟨g, 0, none⟩),.pointer (some ⟨g, 0, none⟩),.pointer (some ⟨g, 0, none⟩),.pointer (some ⟨g, 0, none⟩),.pointer (some ⟨g, 0, none⟩),.pointer (some ⟨g, 0, none⟩),.int .i64 d.st,.bool false,.bool false,.bool true,.bool true,.pointer (some ⟨g, 0, none⟩),.pointer (some ⟨g, 0, none⟩),.pointer (some ⟨g, 33, none⟩),.int .i64 d.rst,.pointer (some ⟨g, 0, none⟩),.pointer (some ⟨g, 0, none⟩),.pointer (some ⟨g, 37, none⟩),.int .i64 now,.bool false,U,U,.pointer (some ⟨g, 0, none⟩),.pointer (some ⟨g, 0, none⟩),.pointer (some ⟨g, 0, none⟩),.pointer (some ⟨g, 32, none⟩),.int .i64 d.prb,.bool false,U,U,U,U,U,U,U,U,U,U] ?_
          have hF : firstX ps now d = (d, []) := by
            unfold firstX
            rw [← hbp.out]
            rfl
          rw [hF] at hX2
          clear hF
          replace hX2 : Hid (TX = if dueB d.agn now then againX ps now d [] else (d, [])) := hX2
          go_upto_region 8 with (fail)
          obtain ⟨ba, hba⟩ : ∃ q, Hid (q = dueB d.agn now) := ⟨_, rfl⟩
          have hda := fun sv' wx Ax => hd1 d sv' d.agn wx Ax
          rw [← hba.out] at hda
          cases ba
          case false =>
            refine vR ?_
            refine vV (.pointer (some ⟨g, 0, none⟩)) ?_
            refine vV (.pointer (some ⟨g, 0, none⟩)) ?_
            refine vV (.pointer (some ⟨g, 0, none⟩)) ?_
            refine vV (.pointer (some ⟨g, 31, none⟩)) ?_
            refine vD (.int .i64 d.agn) (A.cell 31) ?_
            refine vK (hda _ _ A) ?_
            intro qw5 qg6
            replace A := A.since qg6
            replace L := L.since qg6
            replace P := P.since qg6
            replace G := G.trans qg6
            have qg6_s := qg6.size
            refine vE #[.pointer (some ⟨g, 0, none⟩),U,.pointer (some ⟨g, 0, none⟩),.pointer (some ⟨g, 0, none⟩),.pointer (some ⟨g, 0, none⟩),.pointer (some ⟨g, 0, none⟩),.pointer (some ⟨g, 0, none⟩),.pointer (some ⟨g, 0, none⟩),.pointer (some ⟨g, 0, none⟩),.int .i64 d.st,.bool false,.bool false,.bool true,.bool true,.pointer (some ⟨g, 0, none⟩),.pointer (some ⟨g, 0, none⟩),.pointer (some ⟨g, 33, none⟩),.int .i64 d.rst,.pointer (some ⟨g, 0, none⟩),.pointer (some ⟨g, 0, none⟩),.pointer (some ⟨g, 37, none⟩),.int .i64 now,.bool false,U,U,.pointer (some ⟨g, 0, none⟩),.pointer (some ⟨g, 0, none⟩),.pointer (some ⟨g, 0, none⟩),.pointer (some ⟨g, 32, none⟩),.int .i64 d.prb,.bool false,U,U,.pointer (some ⟨g, 0, none⟩),.pointer (some ⟨g, 0, none⟩),.pointer (some ⟨g, 0, none⟩),.pointer (some ⟨g, 31, none⟩),.int .i64 d.agn,.bool false,U,U] ?_
            have hX3 : TX = (d, []) := by
              rw [hX2.out, ← hba.out]
              rfl
            go_wp2_with (fail)
            refine bodyPost_end (v := .tuple #[]) (results_none rfl _ _ _) rfl ⟨rfl, ?_, G⟩
            rw [hX3]
            exact ⟨_, _, _, ⟨A, L, P, pa, lo, (by omega), (by omega), (by omega)⟩⟩
          case true =>
            refine vR ?_
            refine vV (.pointer (some ⟨g, 0, none⟩)) ?_
            refine vV (.pointer (some ⟨g, 0, none⟩)) ?_
            refine vV (.pointer (some ⟨g, 0, none⟩)) ?_
            refine vV (.pointer (some ⟨g, 31, none⟩)) ?_
            refine vD (.int .i64 d.agn) (A.cell 31) ?_
            refine vK (hda _ _ A) ?_
            intro qw5 qg6
            replace A := A.since qg6
            replace L := L.since qg6
            replace P := P.since qg6
            replace G := G.trans qg6
            have qg6_s := qg6.size
            refine vE #[.pointer (some ⟨g, 0, none⟩),U,.pointer (some ⟨g, 0, none⟩),.pointer (some ⟨g, 0, none⟩),.pointer (some ⟨g, 0, none⟩),.pointer (some ⟨g, 0, none⟩),.pointer (some ⟨g, 0, none⟩),.pointer (some ⟨g, 0, none⟩),.pointer (some ⟨g, 0, none⟩),.int .i64 d.st,.bool false,.bool false,.bool true,.bool true,.pointer (some ⟨g, 0, none⟩),.pointer (some ⟨g, 0, none⟩),.pointer (some ⟨g, 33, none⟩),.int .i64 d.rst,.pointer (some ⟨g, 0, none⟩),.pointer (some ⟨g, 0, none⟩),.pointer (some ⟨g, 37, none⟩),.int .i64 now,.bool false,U,U,.pointer (some ⟨g, 0, none⟩),.pointer (some ⟨g, 0, none⟩),.pointer (some ⟨g, 0, none⟩),.pointer (some ⟨g, 32, none⟩),.int .i64 d.prb,.bool false,U,U,.pointer (some ⟨g, 0, none⟩),.pointer (some ⟨g, 0, none⟩),.pointer (some ⟨g, 0, none⟩),.pointer (some ⟨g, 31, none⟩),.int .i64 d.agn,.bool true,U,U] ?_
            go_upto_region 9 with (fail)
            refine vR ?_
            refine vV (.pointer (some ⟨g, 0, none⟩)) ?_
            refine vC (implTryAgain _ _ _ _ _ _ _ _ _ _ h0 h1 (by simp at hlen; omega) (by simp) ok _ ⟨A, L, P, pa, lo, (by omega), (by omega), (by omega)⟩) ?_
            rintro _ qw7 ⟨rfl, ⟨gsqk9, nqk9, cqk9, ⟨Aqk9, Lqk9, Pqk9, paqk9, loqk9, iqk9, jqk9, lqk9⟩⟩, qh8⟩
            refine ⟨_, rfl, ?_⟩
            clear A L P
            replace G := G.base qh8
            have qh8_s := qh8.size
            have Aqk9_l := Aqk9.lt
            have Lqk9_l := Lqk9.lt
            have Lqk9_o := Lqk9.low'
            have Pqk9_l := Pqk9.lt
            refine vE #[.pointer (some ⟨g, 0, none⟩),U,.pointer (some ⟨g, 0, none⟩),.pointer (some ⟨g, 0, none⟩),.pointer (some ⟨g, 0, none⟩),.pointer (some ⟨g, 0, none⟩),.pointer (some ⟨g, 0, none⟩),.pointer (some ⟨g, 0, none⟩),.pointer (some ⟨g, 0, none⟩),.int .i64 d.st,.bool false,.bool false,.bool true,.bool true,.pointer (some ⟨g, 0, none⟩),.pointer (some ⟨g, 0, none⟩),.pointer (some ⟨g, 33, none⟩),.int .i64 d.rst,.pointer (some ⟨g, 0, none⟩),.pointer (some ⟨g, 0, none⟩),.pointer (some ⟨g, 37, none⟩),.int .i64 now,.bool false,U,U,.pointer (some ⟨g, 0, none⟩),.pointer (some ⟨g, 0, none⟩),.pointer (some ⟨g, 0, none⟩),.pointer (some ⟨g, 32, none⟩),.int .i64 d.prb,.bool false,U,U,.pointer (some ⟨g, 0, none⟩),.pointer (some ⟨g, 0, none⟩),.pointer (some ⟨g, 0, none⟩),.pointer (some ⟨g, 31, none⟩),.int .i64 d.agn,.bool true,.pointer (some ⟨g, 0, none⟩),.tuple #[]] ?_
            have hX3 : TX = againX ps now d [] := by
              rw [hX2.out, ← hba.out]
              rfl
            go_wp2_with (fail)
            refine bodyPost_end (v := .tuple #[]) (results_none rfl _ _ _) rfl ⟨rfl, ?_, G⟩
            rw [hX3]
            exact ⟨_, _, _, ⟨Aqk9, Lqk9, Pqk9, paqk9, loqk9, (by omega), (by omega), (by omega)⟩⟩
        case true =>
          refine vR ?_
          refine vV (.pointer (some ⟨g, 0, none⟩)) ?_
          refine vV (.pointer (some ⟨g, 0, none⟩)) ?_
          refine vV (.pointer (some ⟨g, 0, none⟩)) ?_
          refine vV (.pointer (some ⟨g, 32, none⟩)) ?_
          refine vD (.int .i64 d.prb) (A.cell 32) ?_
          refine vK (hdp _ _ A) ?_
          intro qw3 qg4
          replace A := A.since qg4
          replace L := L.since qg4
          replace P := P.since qg4
          replace G := G.trans qg4
          have qg4_s := qg4.size
          refine vE #[.pointer (some ⟨g, 0, none⟩),U,.pointer (some ⟨g, 0, none⟩),.pointer (some ⟨g, 0, none⟩),.pointer (some ⟨g, 0, none⟩),.pointer (some ⟨g, 0, none⟩),.pointer (some ⟨g, 0, none⟩),.pointer (some ⟨g, 0, none⟩),.pointer (some ⟨g, 0, none⟩),.int .i64 d.st,.bool false,.bool false,.bool true,.bool true,.pointer (some ⟨g, 0, none⟩),.pointer (some ⟨g, 0, none⟩),.pointer (some ⟨g, 33, none⟩),.int .i64 d.rst,.pointer (some ⟨g, 0, none⟩),.pointer (some ⟨g, 0, none⟩),.pointer (some ⟨g, 37, none⟩),.int .i64 now,.bool false,U,U,.pointer (some ⟨g, 0, none⟩),.pointer (some ⟨g, 0, none⟩),.pointer (some ⟨g, 0, none⟩),.pointer (some ⟨g, 32, none⟩),.int .i64 d.prb,.bool true,U,U,U,U,U,U,U,U,U,U] ?_
          go_upto_region 7 with (fail)
          refine vR ?_
          refine vV (.pointer (some ⟨g, 0, none⟩)) ?_
          refine vC (implProbe _ _ _ _ _ _ _ _ _ _ h0 h1 (by simp at hlen; omega) ok.w_nxt ok.w_una ok.w_mx ok.w_oF ok.hod ok.gd ok.rt _ ⟨A, L, P, pa, lo, (by omega), (by omega), (by omega)⟩) ?_
          rintro _ qw5 ⟨rfl, ⟨gsqk7, nqk7, cqk7, ⟨Aqk7, Lqk7, Pqk7, paqk7, loqk7, iqk7, jqk7, lqk7⟩⟩, qh6⟩
          refine ⟨_, rfl, ?_⟩
          clear A L P
          replace G := G.base qh6
          have qh6_s := qh6.size
          have Aqk7_l := Aqk7.lt
          have Lqk7_l := Lqk7.lt
          have Lqk7_o := Lqk7.low'
          have Pqk7_l := Pqk7.lt
          refine vE #[.pointer (some ⟨g, 0, none⟩),U,.pointer (some ⟨g, 0, none⟩),.pointer (some ⟨g, 0, none⟩),.pointer (some ⟨g, 0, none⟩),.pointer (some ⟨g, 0, none⟩),.pointer (some ⟨g, 0, none⟩),.pointer (some ⟨g, 0, none⟩),.pointer (some ⟨g, 0, none⟩),.int .i64 d.st,.bool false,.bool false,.bool true,.bool true,.pointer (some ⟨g, 0, none⟩),.pointer (some ⟨g, 0, none⟩),.pointer (some ⟨g, 33, none⟩),.int .i64 d.rst,.pointer (some ⟨g, 0, none⟩),.pointer (some ⟨g, 0, none⟩),.pointer (some ⟨g, 37, none⟩),.int .i64 now,.bool false,U,U,.pointer (some ⟨g, 0, none⟩),.pointer (some ⟨g, 0, none⟩),.pointer (some ⟨g, 0, none⟩),.pointer (some ⟨g, 32, none⟩),.int .i64 d.prb,.bool true,.pointer (some ⟨g, 0, none⟩),.tuple #[],U,U,U,U,U,U,U,U] ?_
          have hF : firstX ps now d = probeX ps now (d, []) := by
            unfold firstX
            rw [← hbp.out]
            rfl
          have okF := ok.first (now := now)
          have lenF := first_len ps now d
          rw [hF] at okF lenF hX2
          obtain ⟨F, hFe⟩ : ∃ q, Hid (q = probeX ps now (d, [])) := ⟨_, rfl⟩
          rw [← hFe.out] at okF lenF hX2 Aqk7 Lqk7 Pqk7 paqk7
          clear hF hFe
          have hFn := Lqk7.len
          replace hX2 : Hid _ := hX2
          go_upto_region 8 with (fail)
          obtain ⟨ba, hba⟩ : ∃ q, Hid (q = dueB F.1.agn now) := ⟨_, rfl⟩
          have hda := fun sv' wx Ax => hd1 F.1 sv' F.1.agn wx Ax
          rw [← hba.out] at hda
          cases ba
          case false =>
            refine vR ?_
            refine vV (.pointer (some ⟨g, 0, none⟩)) ?_
            refine vV (.pointer (some ⟨g, 0, none⟩)) ?_
            refine vV (.pointer (some ⟨g, 0, none⟩)) ?_
            refine vV (.pointer (some ⟨g, 31, none⟩)) ?_
            refine vD (.int .i64 F.1.agn) (Aqk7.cell 31) ?_
            refine vK (hda _ _ Aqk7) ?_
            intro qw8 qg9
            replace Aqk7 := Aqk7.since qg9
            replace Lqk7 := Lqk7.since qg9
            replace Pqk7 := Pqk7.since qg9
            replace G := G.trans qg9
            have qg9_s := qg9.size
            refine vE #[.pointer (some ⟨g, 0, none⟩),U,.pointer (some ⟨g, 0, none⟩),.pointer (some ⟨g, 0, none⟩),.pointer (some ⟨g, 0, none⟩),.pointer (some ⟨g, 0, none⟩),.pointer (some ⟨g, 0, none⟩),.pointer (some ⟨g, 0, none⟩),.pointer (some ⟨g, 0, none⟩),.int .i64 d.st,.bool false,.bool false,.bool true,.bool true,.pointer (some ⟨g, 0, none⟩),.pointer (some ⟨g, 0, none⟩),.pointer (some ⟨g, 33, none⟩),.int .i64 d.rst,.pointer (some ⟨g, 0, none⟩),.pointer (some ⟨g, 0, none⟩),.pointer (some ⟨g, 37, none⟩),.int .i64 now,.bool false,U,U,.pointer (some ⟨g, 0, none⟩),.pointer (some ⟨g, 0, none⟩),.pointer (some ⟨g, 0, none⟩),.pointer (some ⟨g, 32, none⟩),.int .i64 d.prb,.bool true,.pointer (some ⟨g, 0, none⟩),.tuple #[],.pointer (some ⟨g, 0, none⟩),.pointer (some ⟨g, 0, none⟩),.pointer (some ⟨g, 0, none⟩),.pointer (some ⟨g, 31, none⟩),.int .i64 F.1.agn,.bool false,U,U] ?_
            have hX3 : TX = (F.1, F.2) := by
              rw [hX2.out, ← hba.out]
              rfl
            go_wp2_with (fail)
            refine bodyPost_end (v := .tuple #[]) (results_none rfl _ _ _) rfl ⟨rfl, ?_, G⟩
            rw [hX3]
            exact ⟨_, _, _, ⟨Aqk7, Lqk7, Pqk7, paqk7, loqk7, (by omega), (by omega), (by omega)⟩⟩
          case true =>
            refine vR ?_
            refine vV (.pointer (some ⟨g, 0, none⟩)) ?_
            refine vV (.pointer (some ⟨g, 0, none⟩)) ?_
            refine vV (.pointer (some ⟨g, 0, none⟩)) ?_
            refine vV (.pointer (some ⟨g, 31, none⟩)) ?_
            refine vD (.int .i64 F.1.agn) (Aqk7.cell 31) ?_
            refine vK (hda _ _ Aqk7) ?_
            intro qw8 qg9
            replace Aqk7 := Aqk7.since qg9
            replace Lqk7 := Lqk7.since qg9
            replace Pqk7 := Pqk7.since qg9
            replace G := G.trans qg9
            have qg9_s := qg9.size
            refine vE #[.pointer (some ⟨g, 0, none⟩),U,.pointer (some ⟨g, 0, none⟩),.pointer (some ⟨g, 0, none⟩),.pointer (some ⟨g, 0, none⟩),.pointer (some ⟨g, 0, none⟩),.pointer (some ⟨g, 0, none⟩),.pointer (some ⟨g, 0, none⟩),.pointer (some ⟨g, 0, none⟩),.int .i64 d.st,.bool false,.bool false,.bool true,.bool true,.pointer (some ⟨g, 0, none⟩),.pointer (some ⟨g, 0, none⟩),.pointer (some ⟨g, 33, none⟩),.int .i64 d.rst,.pointer (some ⟨g, 0, none⟩),.pointer (some ⟨g, 0, none⟩),.pointer (some ⟨g, 37, none⟩),.int .i64 now,.bool false,U,U,.pointer (some ⟨g, 0, none⟩),.pointer (some ⟨g, 0, none⟩),.pointer (some ⟨g, 0, none⟩),.pointer (some ⟨g, 32, none⟩),.int .i64 d.prb,.bool true,.pointer (some ⟨g, 0, none⟩),.tuple #[],.pointer (some ⟨g, 0, none⟩),.pointer (some ⟨g, 0, none⟩),.pointer (some ⟨g, 0, none⟩),.pointer (some ⟨g, 31, none⟩),.int .i64 F.1.agn,.bool true,U,U] ?_
            go_upto_region 9 with (fail)
            refine vR ?_
            refine vV (.pointer (some ⟨g, 0, none⟩)) ?_
            refine vC (implTryAgain _ _ _ _ _ _ _ _ _ _ h0 h1 (by omega) (by omega) okF _ ⟨Aqk7, Lqk7, Pqk7, paqk7, loqk7, (by omega), (by omega), (by omega)⟩) ?_
            rintro _ qw10 ⟨rfl, ⟨gsqk12, nqk12, cqk12, ⟨Aqk12, Lqk12, Pqk12, paqk12, loqk12, iqk12, jqk12, lqk12⟩⟩, qh11⟩
            refine ⟨_, rfl, ?_⟩
            clear Aqk7 Lqk7 Pqk7
            replace G := G.base qh11
            have qh11_s := qh11.size
            have Aqk12_l := Aqk12.lt
            have Lqk12_l := Lqk12.lt
            have Lqk12_o := Lqk12.low'
            have Pqk12_l := Pqk12.lt
            refine vE #[.pointer (some ⟨g, 0, none⟩),U,.pointer (some ⟨g, 0, none⟩),.pointer (some ⟨g, 0, none⟩),.pointer (some ⟨g, 0, none⟩),.pointer (some ⟨g, 0, none⟩),.pointer (some ⟨g, 0, none⟩),.pointer (some ⟨g, 0, none⟩),.pointer (some ⟨g, 0, none⟩),.int .i64 d.st,.bool false,.bool false,.bool true,.bool true,.pointer (some ⟨g, 0, none⟩),.pointer (some ⟨g, 0, none⟩),.pointer (some ⟨g, 33, none⟩),.int .i64 d.rst,.pointer (some ⟨g, 0, none⟩),.pointer (some ⟨g, 0, none⟩),.pointer (some ⟨g, 37, none⟩),.int .i64 now,.bool false,U,U,.pointer (some ⟨g, 0, none⟩),.pointer (some ⟨g, 0, none⟩),.pointer (some ⟨g, 0, none⟩),.pointer (some ⟨g, 32, none⟩),.int .i64 d.prb,.bool true,.pointer (some ⟨g, 0, none⟩),.tuple #[],.pointer (some ⟨g, 0, none⟩),.pointer (some ⟨g, 0, none⟩),.pointer (some ⟨g, 0, none⟩),.pointer (some ⟨g, 31, none⟩),.int .i64 F.1.agn,.bool true,.pointer (some ⟨g, 0, none⟩),.tuple #[]] ?_
            have hX3 : TX = againX ps now F.1 F.2 := by
              rw [hX2.out, ← hba.out]
              rfl
            go_wp2_with (fail)
            refine bodyPost_end (v := .tuple #[]) (results_none rfl _ _ _) rfl ⟨rfl, ?_, G⟩
            rw [hX3]
            exact ⟨_, _, _, ⟨Aqk12, Lqk12, Pqk12, paqk12, loqk12, (by omega), (by omega), (by omega)⟩⟩
    case false =>
      refine vR ?_
      refine vV (.bool false) ?_ (hrun := by rw [show false = (d.st == 9) from hb9.out]; kernel_rfl)
      refine vV (.bool false) ?_
      refine vE #[.pointer (some ⟨g, 0, none⟩),U,.pointer (some ⟨g, 0, none⟩),.pointer (some ⟨g, 0, none⟩),.pointer (some ⟨g, 0, none⟩),.pointer (some ⟨g, 0, none⟩),.pointer (some ⟨g, 0, none⟩),.pointer (some ⟨g, 0, none⟩),.pointer (some ⟨g, 0, none⟩),.int .i64 d.st,.bool false,.bool false,.bool false,.bool false,U,U,U,U,U,U,U,U,U,U,U,U,U,U,U,U,U,U,U,U,U,U,U,U,U,U,U] ?_
      have hs9 : ¬ d.st = 9 := by simpa using hb9.out.symm
      have hX2 : TX = if dueB (firstX ps now d).1.agn now then againX ps now (firstX ps now d).1 (firstX ps now d).2 else firstX ps now d := hX0.out.trans (if_neg (by rintro ⟨q, -⟩; exact hs9 q))
      clear hX0 hs9
      go_upto_region 6 with (fail)
      obtain ⟨bp, hbp⟩ : ∃ q, Hid (q = dueB d.prb now) := ⟨_, rfl⟩
      have hdp := fun sv' wx Ax => hd1 d sv' d.prb wx Ax
      rw [← hbp.out] at hdp
      cases bp
      case false =>
        refine vR ?_
        refine vV (.pointer (some ⟨g, 0, none⟩)) ?_
        refine vV (.pointer (some ⟨g, 0, none⟩)) ?_
        refine vV (.pointer (some ⟨g, 0, none⟩)) ?_
        refine vV (.pointer (some ⟨g, 32, none⟩)) ?_
        refine vD (.int .i64 d.prb) (A.cell 32) ?_
        refine vK (hdp _ _ A) ?_
        intro qw1 qg2
        replace A := A.since qg2
        replace L := L.since qg2
        replace P := P.since qg2
        replace G := G.trans qg2
        have qg2_s := qg2.size
        refine vE #[.pointer (some ⟨g, 0, none⟩),U,.pointer (some ⟨g, 0, none⟩),.pointer (some ⟨g, 0, none⟩),.pointer (some ⟨g, 0, none⟩),.pointer (some ⟨g, 0, none⟩),.pointer (some ⟨g, 0, none⟩),.pointer (some ⟨g, 0, none⟩),.pointer (some ⟨g, 0, none⟩),.int .i64 d.st,.bool false,.bool false,.bool false,.bool false,U,U,U,U,U,U,U,U,U,U,U,.pointer (some ⟨g, 0, none⟩),.pointer (some ⟨g, 0, none⟩),.pointer (some ⟨g, 0, none⟩),.pointer (some ⟨g, 32, none⟩),.int .i64 d.prb,.bool false,U,U,U,U,U,U,U,U,U,U] ?_
        have hF : firstX ps now d = (d, []) := by
          unfold firstX
          rw [← hbp.out]
          rfl
        rw [hF] at hX2
        clear hF
        replace hX2 : Hid (TX = if dueB d.agn now then againX ps now d [] else (d, [])) := hX2
        go_upto_region 8 with (fail)
        obtain ⟨ba, hba⟩ : ∃ q, Hid (q = dueB d.agn now) := ⟨_, rfl⟩
        have hda := fun sv' wx Ax => hd1 d sv' d.agn wx Ax
        rw [← hba.out] at hda
        cases ba
        case false =>
          refine vR ?_
          refine vV (.pointer (some ⟨g, 0, none⟩)) ?_
          refine vV (.pointer (some ⟨g, 0, none⟩)) ?_
          refine vV (.pointer (some ⟨g, 0, none⟩)) ?_
          refine vV (.pointer (some ⟨g, 31, none⟩)) ?_
          refine vD (.int .i64 d.agn) (A.cell 31) ?_
          refine vK (hda _ _ A) ?_
          intro qw3 qg4
          replace A := A.since qg4
          replace L := L.since qg4
          replace P := P.since qg4
          replace G := G.trans qg4
          have qg4_s := qg4.size
          refine vE #[.pointer (some ⟨g, 0, none⟩),U,.pointer (some ⟨g, 0, none⟩),.pointer (some ⟨g, 0, none⟩),.pointer (some ⟨g, 0, none⟩),.pointer (some ⟨g, 0, none⟩),.pointer (some ⟨g, 0, none⟩),.pointer (some ⟨g, 0, none⟩),.pointer (some ⟨g, 0, none⟩),.int .i64 d.st,.bool false,.bool false,.bool false,.bool false,U,U,U,U,U,U,U,U,U,U,U,.pointer (some ⟨g, 0, none⟩),.pointer (some ⟨g, 0, none⟩),.pointer (some ⟨g, 0, none⟩),.pointer (some ⟨g, 32, none⟩),.int .i64 d.prb,.bool false,U,U,.pointer (some ⟨g, 0, none⟩),.pointer (some ⟨g, 0, none⟩),.pointer (some ⟨g, 0, none⟩),.pointer (some ⟨g, 31, none⟩),.int .i64 d.agn,.bool false,U,U] ?_
          have hX3 : TX = (d, []) := by
            rw [hX2.out, ← hba.out]
            rfl
          go_wp2_with (fail)
          refine bodyPost_end (v := .tuple #[]) (results_none rfl _ _ _) rfl ⟨rfl, ?_, G⟩
          rw [hX3]
          exact ⟨_, _, _, ⟨A, L, P, pa, lo, (by omega), (by omega), (by omega)⟩⟩
        case true =>
          refine vR ?_
          refine vV (.pointer (some ⟨g, 0, none⟩)) ?_
          refine vV (.pointer (some ⟨g, 0, none⟩)) ?_
          refine vV (.pointer (some ⟨g, 0, none⟩)) ?_
          refine vV (.pointer (some ⟨g, 31, none⟩)) ?_
          refine vD (.int .i64 d.agn) (A.cell 31) ?_
          refine vK (hda _ _ A) ?_
          intro qw3 qg4
          replace A := A.since qg4
          replace L := L.since qg4
          replace P := P.since qg4
          replace G := G.trans qg4
          have qg4_s := qg4.size
          refine vE #[.pointer (some ⟨g, 0, none⟩),U,.pointer (some ⟨g, 0, none⟩),.pointer (some ⟨g, 0, none⟩),.pointer (some ⟨g, 0, none⟩),.pointer (some ⟨g, 0, none⟩),.pointer (some ⟨g, 0, none⟩),.pointer (some ⟨g, 0, none⟩),.pointer (some ⟨g, 0, none⟩),.int .i64 d.st,.bool false,.bool false,.bool false,.bool false,U,U,U,U,U,U,U,U,U,U,U,.pointer (some ⟨g, 0, none⟩),.pointer (some ⟨g, 0, none⟩),.pointer (some ⟨g, 0, none⟩),.pointer (some ⟨g, 32, none⟩),.int .i64 d.prb,.bool false,U,U,.pointer (some ⟨g, 0, none⟩),.pointer (some ⟨g, 0, none⟩),.pointer (some ⟨g, 0, none⟩),.pointer (some ⟨g, 31, none⟩),.int .i64 d.agn,.bool true,U,U] ?_
          go_upto_region 9 with (fail)
          refine vR ?_
          refine vV (.pointer (some ⟨g, 0, none⟩)) ?_
          refine vC (implTryAgain _ _ _ _ _ _ _ _ _ _ h0 h1 (by simp at hlen; omega) (by simp) ok _ ⟨A, L, P, pa, lo, (by omega), (by omega), (by omega)⟩) ?_
          rintro _ qw5 ⟨rfl, ⟨gsqk7, nqk7, cqk7, ⟨Aqk7, Lqk7, Pqk7, paqk7, loqk7, iqk7, jqk7, lqk7⟩⟩, qh6⟩
          refine ⟨_, rfl, ?_⟩
          clear A L P
          replace G := G.base qh6
          have qh6_s := qh6.size
          have Aqk7_l := Aqk7.lt
          have Lqk7_l := Lqk7.lt
          have Lqk7_o := Lqk7.low'
          have Pqk7_l := Pqk7.lt
          refine vE #[.pointer (some ⟨g, 0, none⟩),U,.pointer (some ⟨g, 0, none⟩),.pointer (some ⟨g, 0, none⟩),.pointer (some ⟨g, 0, none⟩),.pointer (some ⟨g, 0, none⟩),.pointer (some ⟨g, 0, none⟩),.pointer (some ⟨g, 0, none⟩),.pointer (some ⟨g, 0, none⟩),.int .i64 d.st,.bool false,.bool false,.bool false,.bool false,U,U,U,U,U,U,U,U,U,U,U,.pointer (some ⟨g, 0, none⟩),.pointer (some ⟨g, 0, none⟩),.pointer (some ⟨g, 0, none⟩),.pointer (some ⟨g, 32, none⟩),.int .i64 d.prb,.bool false,U,U,.pointer (some ⟨g, 0, none⟩),.pointer (some ⟨g, 0, none⟩),.pointer (some ⟨g, 0, none⟩),.pointer (some ⟨g, 31, none⟩),.int .i64 d.agn,.bool true,.pointer (some ⟨g, 0, none⟩),.tuple #[]] ?_
          have hX3 : TX = againX ps now d [] := by
            rw [hX2.out, ← hba.out]
            rfl
          go_wp2_with (fail)
          refine bodyPost_end (v := .tuple #[]) (results_none rfl _ _ _) rfl ⟨rfl, ?_, G⟩
          rw [hX3]
          exact ⟨_, _, _, ⟨Aqk7, Lqk7, Pqk7, paqk7, loqk7, (by omega), (by omega), (by omega)⟩⟩
      case true =>
        refine vR ?_
        refine vV (.pointer (some ⟨g, 0, none⟩)) ?_
        refine vV (.pointer (some ⟨g, 0, none⟩)) ?_
        refine vV (.pointer (some ⟨g, 0, none⟩)) ?_
        refine vV (.pointer (some ⟨g, 32, none⟩)) ?_
        refine vD (.int .i64 d.prb) (A.cell 32) ?_
        refine vK (hdp _ _ A) ?_
        intro qw1 qg2
        replace A := A.since qg2
        replace L := L.since qg2
        replace P := P.since qg2
        replace G := G.trans qg2
        have qg2_s := qg2.size
        refine vE #[.pointer (some ⟨g, 0, none⟩),U,.pointer (some ⟨g, 0, none⟩),.pointer (some ⟨g, 0, none⟩),.pointer (some ⟨g, 0, none⟩),.pointer (some ⟨g, 0, none⟩),.pointer (some ⟨g, 0, none⟩),.pointer (some ⟨g, 0, none⟩),.pointer (some ⟨g, 0, none⟩),.int .i64 d.st,.bool false,.bool false,.bool false,.bool false,U,U,U,U,U,U,U,U,U,U,U,.pointer (some ⟨g, 0, none⟩),.pointer (some ⟨g, 0, none⟩),.pointer (some ⟨g, 0, none⟩),.pointer (some ⟨g, 32, none⟩),.int .i64 d.prb,.bool true,U,U,U,U,U,U,U,U,U,U] ?_
        go_upto_region 7 with (fail)
        refine vR ?_
        refine vV (.pointer (some ⟨g, 0, none⟩)) ?_
        refine vC (implProbe _ _ _ _ _ _ _ _ _ _ h0 h1 (by simp at hlen; omega) ok.w_nxt ok.w_una ok.w_mx ok.w_oF ok.hod ok.gd ok.rt _ ⟨A, L, P, pa, lo, (by omega), (by omega), (by omega)⟩) ?_
        rintro _ qw3 ⟨rfl, ⟨gsqk5, nqk5, cqk5, ⟨Aqk5, Lqk5, Pqk5, paqk5, loqk5, iqk5, jqk5, lqk5⟩⟩, qh4⟩
        refine ⟨_, rfl, ?_⟩
        clear A L P
        replace G := G.base qh4
        have qh4_s := qh4.size
        have Aqk5_l := Aqk5.lt
        have Lqk5_l := Lqk5.lt
        have Lqk5_o := Lqk5.low'
        have Pqk5_l := Pqk5.lt
        refine vE #[.pointer (some ⟨g, 0, none⟩),U,.pointer (some ⟨g, 0, none⟩),.pointer (some ⟨g, 0, none⟩),.pointer (some ⟨g, 0, none⟩),.pointer (some ⟨g, 0, none⟩),.pointer (some ⟨g, 0, none⟩),.pointer (some ⟨g, 0, none⟩),.pointer (some ⟨g, 0, none⟩),.int .i64 d.st,.bool false,.bool false,.bool false,.bool false,U,U,U,U,U,U,U,U,U,U,U,.pointer (some ⟨g, 0, none⟩),.pointer (some ⟨g, 0, none⟩),.pointer (some ⟨g, 0, none⟩),.pointer (some ⟨g, 32, none⟩),.int .i64 d.prb,.bool true,.pointer (some ⟨g, 0, none⟩),.tuple #[],U,U,U,U,U,U,U,U] ?_
        have hF : firstX ps now d = probeX ps now (d, []) := by
          unfold firstX
          rw [← hbp.out]
          rfl
        have okF := ok.first (now := now)
        have lenF := first_len ps now d
        rw [hF] at okF lenF hX2
        obtain ⟨F, hFe⟩ : ∃ q, Hid (q = probeX ps now (d, [])) := ⟨_, rfl⟩
        rw [← hFe.out] at okF lenF hX2 Aqk5 Lqk5 Pqk5 paqk5
        clear hF hFe
        have hFn := Lqk5.len
        replace hX2 : Hid _ := hX2
        go_upto_region 8 with (fail)
        obtain ⟨ba, hba⟩ : ∃ q, Hid (q = dueB F.1.agn now) := ⟨_, rfl⟩
        have hda := fun sv' wx Ax => hd1 F.1 sv' F.1.agn wx Ax
        rw [← hba.out] at hda
        cases ba
        case false =>
          refine vR ?_
          refine vV (.pointer (some ⟨g, 0, none⟩)) ?_
          refine vV (.pointer (some ⟨g, 0, none⟩)) ?_
          refine vV (.pointer (some ⟨g, 0, none⟩)) ?_
          refine vV (.pointer (some ⟨g, 31, none⟩)) ?_
          refine vD (.int .i64 F.1.agn) (Aqk5.cell 31) ?_
          refine vK (hda _ _ Aqk5) ?_
          intro qw6 qg7
          replace Aqk5 := Aqk5.since qg7
          replace Lqk5 := Lqk5.since qg7
          replace Pqk5 := Pqk5.since qg7
          replace G := G.trans qg7
          have qg7_s := qg7.size
          refine vE #[.pointer (some ⟨g, 0, none⟩),U,.pointer (some ⟨g, 0, none⟩),.pointer (some ⟨g, 0, none⟩),.pointer (some ⟨g, 0, none⟩),.pointer (some ⟨g, 0, none⟩),.pointer (some ⟨g, 0, none⟩),.pointer (some ⟨g, 0, none⟩),.pointer (some ⟨g, 0, none⟩),.int .i64 d.st,.bool false,.bool false,.bool false,.bool false,U,U,U,U,U,U,U,U,U,U,U,.pointer (some ⟨g, 0, none⟩),.pointer (some ⟨g, 0, none⟩),.pointer (some ⟨g, 0, none⟩),.pointer (some ⟨g, 32, none⟩),.int .i64 d.prb,.bool true,.pointer (some ⟨g, 0, none⟩),.tuple #[],.pointer (some ⟨g, 0, none⟩),.pointer (some ⟨g, 0, none⟩),.pointer (some ⟨g, 0, none⟩),.pointer (some ⟨g, 31, none⟩),.int .i64 F.1.agn,.bool false,U,U] ?_
          have hX3 : TX = (F.1, F.2) := by
            rw [hX2.out, ← hba.out]
            rfl
          go_wp2_with (fail)
          refine bodyPost_end (v := .tuple #[]) (results_none rfl _ _ _) rfl ⟨rfl, ?_, G⟩
          rw [hX3]
          exact ⟨_, _, _, ⟨Aqk5, Lqk5, Pqk5, paqk5, loqk5, (by omega), (by omega), (by omega)⟩⟩
        case true =>
          refine vR ?_
          refine vV (.pointer (some ⟨g, 0, none⟩)) ?_
          refine vV (.pointer (some ⟨g, 0, none⟩)) ?_
          refine vV (.pointer (some ⟨g, 0, none⟩)) ?_
          refine vV (.pointer (some ⟨g, 31, none⟩)) ?_
          refine vD (.int .i64 F.1.agn) (Aqk5.cell 31) ?_
          refine vK (hda _ _ Aqk5) ?_
          intro qw6 qg7
          replace Aqk5 := Aqk5.since qg7
          replace Lqk5 := Lqk5.since qg7
          replace Pqk5 := Pqk5.since qg7
          replace G := G.trans qg7
          have qg7_s := qg7.size
          refine vE #[.pointer (some ⟨g, 0, none⟩),U,.pointer (some ⟨g, 0, none⟩),.pointer (some ⟨g, 0, none⟩),.pointer (some ⟨g, 0, none⟩),.pointer (some ⟨g, 0, none⟩),.pointer (some ⟨g, 0, none⟩),.pointer (some ⟨g, 0, none⟩),.pointer (some ⟨g, 0, none⟩),.int .i64 d.st,.bool false,.bool false,.bool false,.bool false,U,U,U,U,U,U,U,U,U,U,U,.pointer (some ⟨g, 0, none⟩),.pointer (some ⟨g, 0, none⟩),.pointer (some ⟨g, 0, none⟩),.pointer (some ⟨g, 32, none⟩),.int .i64 d.prb,.bool true,.pointer (some ⟨g, 0, none⟩),.tuple #[],.pointer (some ⟨g, 0, none⟩),.pointer (some ⟨g, 0, none⟩),.pointer (some ⟨g, 0, none⟩),.pointer (some ⟨g, 31, none⟩),.int .i64 F.1.agn,.bool true,U,U] ?_
          go_upto_region 9 with (fail)
          refine vR ?_
          refine vV (.pointer (some ⟨g, 0, none⟩)) ?_
          refine vC (implTryAgain _ _ _ _ _ _ _ _ _ _ h0 h1 (by omega) (by omega) okF _ ⟨Aqk5, Lqk5, Pqk5, paqk5, loqk5, (by omega), (by omega), (by omega)⟩) ?_
          rintro _ qw8 ⟨rfl, ⟨gsqk10, nqk10, cqk10, ⟨Aqk10, Lqk10, Pqk10, paqk10, loqk10, iqk10, jqk10, lqk10⟩⟩, qh9⟩
          refine ⟨_, rfl, ?_⟩
          clear Aqk5 Lqk5 Pqk5
          replace G := G.base qh9
          have qh9_s := qh9.size
          have Aqk10_l := Aqk10.lt
          have Lqk10_l := Lqk10.lt
          have Lqk10_o := Lqk10.low'
          have Pqk10_l := Pqk10.lt
          refine vE #[.pointer (some ⟨g, 0, none⟩),U,.pointer (some ⟨g, 0, none⟩),.pointer (some ⟨g, 0, none⟩),.pointer (some ⟨g, 0, none⟩),.pointer (some ⟨g, 0, none⟩),.pointer (some ⟨g, 0, none⟩),.pointer (some ⟨g, 0, none⟩),.pointer (some ⟨g, 0, none⟩),.int .i64 d.st,.bool false,.bool false,.bool false,.bool false,U,U,U,U,U,U,U,U,U,U,U,.pointer (some ⟨g, 0, none⟩),.pointer (some ⟨g, 0, none⟩),.pointer (some ⟨g, 0, none⟩),.pointer (some ⟨g, 32, none⟩),.int .i64 d.prb,.bool true,.pointer (some ⟨g, 0, none⟩),.tuple #[],.pointer (some ⟨g, 0, none⟩),.pointer (some ⟨g, 0, none⟩),.pointer (some ⟨g, 0, none⟩),.pointer (some ⟨g, 31, none⟩),.int .i64 F.1.agn,.bool true,.pointer (some ⟨g, 0, none⟩),.tuple #[]] ?_
          have hX3 : TX = againX ps now F.1 F.2 := by
            rw [hX2.out, ← hba.out]
            rfl
          go_wp2_with (fail)
          refine bodyPost_end (v := .tuple #[]) (results_none rfl _ _ _) rfl ⟨rfl, ?_, G⟩
          rw [hX3]
          exact ⟨_, _, _, ⟨Aqk10, Lqk10, Pqk10, paqk10, loqk10, (by omega), (by omega), (by omega)⟩⟩

def tickC (c : Cn) (ps : List (Int × ByteArray)) (now : Int) : Cn := if sendOk c ps now then (tickX ps now c).1 else c

def tickS (c : Cn) (ps : List (Int × ByteArray)) (now : Int) : List Sg := if sendOk c ps now then (tickX ps now c).2 else []

set_option maxRecDepth 20000 in
set_option maxHeartbeats 8000000 in
theorem implConnTick (c : Cn) (ps : List (Int × ByteArray)) (now : Int) (gc : GoodC c ps) (w : World) (R : Rd shP w c.pa c.pn ps) :
    Calls Tryz.prog 7 #[.agg (cnCells c), .int .i64 now] w fun e w' => ∃ g ga m ca, e = .returned (.tuple #[.agg (cnCells { tickC c ps now with pa := some ⟨g, 0, none⟩, pc := c.pn }), .slice (some ⟨ga, 0, none⟩) m ca]) ∧ Held shP w' w.heap.size g c.pn c.pn ps ∧ Held shG w' w.heap.size ga m ca (tickS c ps now) ∧ ga ≠ g ∧ Since w w' := by
  have hao := fun wx Rx => implActOf c ps now gc wx Rx
  have hk := fun wx Rx => implConnOk c ps gc wx Rx
  have ht := fun wx => isTickS now wx
  unfold cnVal at hk
  obtain ⟨q, hq⟩ : ∃ q, Hid (q = connOk c ps) := ⟨_, rfl⟩
  rw [← hq.out] at hk
  obtain ⟨D, hD⟩ : ∃ q, Hid (q = tickC c ps now) := ⟨_, rfl⟩
  obtain ⟨XS, hXS⟩ : ∃ q, Hid (q = tickS c ps now) := ⟨_, rfl⟩
  rw [← hD.out, ← hXS.out]
  go_enter Tryz.func7, Tryz.ntmps7
  go_upto_region 1 with (fail)
  rw [cn_zero]
  have G := ((Since.refl w).alloc (.cells (cnCells c) 42)).alloc (.cells (cnCells cnZero) 42)
  have A := (Blk.new w (cnCells c) 42).since ((Since.refl _).alloc (.cells (cnCells cnZero) 42))
  have Z := Blk.new (w.alloc (.cells (cnCells c) 42)) (cnCells cnZero) 42
  rw [World.size_alloc] at Z
  generalize (w.alloc (.cells (cnCells c) 42)).alloc (.cells (cnCells cnZero) 42) = x0 at A Z G ⊢
  have hZ := Z.lt
  refine vR ?_
  refine vB cn_big A (cn_size _) ?_
  refine vV (.int .i64 now) ?_
  refine vC (hao _ (R.since G)) ?_
  rintro _ qw1 ⟨g, pg, gs, rfl, ⟨A1, L1, P1, pa1, lo1, i1, j1, l1⟩, qg2⟩
  refine ⟨_, rfl, ?_⟩
  replace A := A.since qg2
  replace Z := Z.since qg2
  replace G := G.trans qg2
  have qg2_s := qg2.size
  have A1_l := A1.lt
  have L1_l := L1.lt
  have L1_o := L1.low'
  have P1_l := P1.lt
  have P1_o := P1.low'
  refine vV (.pointer (some ⟨g, 0, none⟩)) ?_
  refine vE #[.agg (cnCells c),.int .i64 now,.pointer (some ⟨w.heap.size, 0, none⟩),U,.pointer (some ⟨w.heap.size + 1, 0, none⟩),.slice none 0 0,.pointer (some ⟨g, 0, none⟩),.agg (cnCells c),.int .i64 now,.pointer (some ⟨g, 0, none⟩),U,U,U,U,U,U,U,U,U,U,U,U,U,U,U,U] ?_
  go_upto_region 2 with (fail)
  cases q
  case false =>
    refine vR ?_
    refine vB cn_big A (cn_size _) ?_
    refine vK (hk _ (R.since G)) ?_
    intro qw3 qg4
    replace A := A.since qg4
    replace Z := Z.since qg4
    replace A1 := A1.since qg4
    replace L1 := L1.since qg4
    replace P1 := P1.since qg4
    replace G := G.trans qg4
    have qg4_s := qg4.size
    refine vV (.bool false) ?_
    refine vS ?_
    refine vS ?_
    refine vV (.bool false) ?_
    refine vE #[.agg (cnCells c),.int .i64 now,.pointer (some ⟨w.heap.size, 0, none⟩),U,.pointer (some ⟨w.heap.size + 1, 0, none⟩),.slice none 0 0,.pointer (some ⟨g, 0, none⟩),.agg (cnCells c),.int .i64 now,.pointer (some ⟨g, 0, none⟩),.agg (cnCells c),.bool false,.bool false,U,U,.bool false,U,U,U,U,U,U,U,U,U,U] ?_
    have eD : Hid (D = c) := hD.out.trans (by unfold tickC sendOk; rw [← hq.out]; rfl)
    have eS : Hid (XS = []) := hXS.out.trans (by unfold tickS sendOk; rw [← hq.out]; rfl)
    go_upto_region 4 with (fail)
    have hRz : Raw (w.heap.size + 1) (cnCells { c with pa := some ⟨pg, 0, none⟩, pc := c.pn }).size qw3 := ⟨cnCells cnZero, rfl, Z⟩
    refine wp_region_keep (wb := qw3) (w.heap.size + 1) (cnCells { c with pa := some ⟨pg, 0, none⟩, pc := c.pn }) (fun i x v => match i with
        | 0 => v = .pointer (some ⟨g, 0, none⟩)
        | 1 => v = .pointer (some ⟨g, 0, none⟩)
        | 2 => v = .pointer (some ⟨g, 0, none⟩)
        | 3 => v = .agg (cnCells { c with pa := some ⟨pg, 0, none⟩, pc := c.pn })
        | 4 => v = .pointer (some ⟨g, 0, none⟩)
        | 5 => v = .pointer (some ⟨g, 0, none⟩)
        | 6 => v = .pointer (some ⟨g, 38, none⟩)
        | 7 => v = .slice (some ⟨gs, 0, none⟩) 0 0
        | 9 => v = .slice (some ⟨gs, 0, none⟩) 0 0
        | 8 => Blk (w.heap.size + 1) x (cnCells { c with pa := some ⟨pg, 0, none⟩, pc := c.pn })
        | _ => True) (fun v => { tmps := #[.agg (cnCells c), .int .i64 now, .pointer (some ⟨w.heap.size, 0, none⟩), undef, .pointer (some ⟨w.heap.size + 1, 0, none⟩), v 9, .pointer (some ⟨g, 0, none⟩), .agg (cnCells c), .int .i64 now, .pointer (some ⟨g, 0, none⟩), .agg (cnCells c), .bool false, .bool false, undef, undef, .bool false, undef, undef, v 0, v 1, v 2, v 3, v 4, v 5, v 6, v 7], defers := [] }) (by kernel_rfl) (by kernel_rfl) (by kernel_rfl) (KeepB.refl _ _ _) ?_ (fun vals => by kernel_rfl) ?_ ?_
    case refine_1 =>
      intro j x y v h1 h2
      match j, h2 with
      | 8, h2 => exact h1.done h2
      | 0, h2 | 1, h2 | 2, h2 | 3, h2 | 4, h2 | 5, h2 | 6, h2 | 7, h2 | 9, h2 => exact h2
      | n + 10, _ => trivial
    case refine_2 =>
      repeat (first | exact eachDoesR_nil | refine eachDoesR_cons ?_ ?_)
      all_goals intro vals x hx hv
      all_goals simp [Region.binds] at hv
      · simp [does, doesUpon, go_sem, hv, KeepB.refl]
      · refine does_store cn_big (cn_size _) (hx.raw hRz) (cn_one _) _ _ rfl rfl hv.1 ?_
        intro z t B
        exact ⟨keep_of t B, B⟩
      · have fl0 : x.cell? ⟨g, 38, none⟩ = some (.slice (some ⟨gs, 0, none⟩) 0 0) := (A1.touch hx.touch (by omega)).cell 38
        simp [does, doesUpon, go_sem, hv, fl0, KeepB.refl]
      · simp [does, doesUpon, go_sem, hv, KeepB.refl]
      · simp [does, doesUpon, go_sem, hv, KeepB.refl]
      · simp [does, doesUpon, go_sem, KeepB.refl]
      · exact does_end (A1.touch hx.touch (by omega)) _ rfl hv ⟨KeepB.refl _ _ _, rfl⟩
      · simp [does, doesUpon, go_sem, hv, KeepB.refl]
      · simp [does, doesUpon, go_sem, hv, KeepB.refl]
      · simp [does, doesUpon, go_sem, KeepB.refl]
    case refine_3 =>
      intro vals y hx hv
      have Zb : Blk (w.heap.size + 1) y (cnCells { c with pa := some ⟨pg, 0, none⟩, pc := c.pn }) := hv 8 (by decide)
      have hv0 : vals 0 = _ := hv 0 (by decide)
      have hv1 : vals 1 = _ := hv 1 (by decide)
      have hv2 : vals 2 = _ := hv 2 (by decide)
      have hv3 : vals 3 = _ := hv 3 (by decide)
      have hv4 : vals 4 = _ := hv 4 (by decide)
      have hv5 : vals 5 = _ := hv 5 (by decide)
      have hv6 : vals 6 = _ := hv 6 (by decide)
      have hv7 : vals 7 = _ := hv 7 (by decide)
      have hv9 : vals 9 = _ := hv 9 (by decide)
      clear hv
      simp only [hv0, hv1, hv2, hv3, hv4, hv5, hv6, hv7, hv9]
      have hT := hx.touch
      replace L1 := L1.touch hT (by omega)
      replace P1 := P1.touch hT (by omega)
      replace G := since_touch G hT (by omega)
      clear hv0 hv1 hv2 hv3 hv4 hv5 hv6 hv7 hv9
      go_wp2_with (fail)
      refine bodyPost_ret (results_cn2 (t := 4) (u := 5) rfl _ rfl Zb) rfl ⟨pg, gs, 0, 0, ?_, P1.raise (by omega), ?_, by omega, G⟩
      · rw [eD.out]; rfl
      · rw [eS.out]; exact L1.raise (by omega)
  case true =>
    by_cases hn : 0 ≤ now ∧ now ≤ 1000000000
    case neg =>
      rw [decide_eq_false hn] at ht
      refine vR ?_
      refine vB cn_big A (cn_size _) ?_
      refine vK (hk _ (R.since G)) ?_
      intro qw3 qg4
      replace A := A.since qg4
      replace Z := Z.since qg4
      replace A1 := A1.since qg4
      replace L1 := L1.since qg4
      replace P1 := P1.since qg4
      replace G := G.trans qg4
      have qg4_s := qg4.size
      refine vV (.bool true) ?_
      refine vV (.int .i64 now) ?_
      refine vC (ht _) ?_
      rintro _ _ ⟨rfl, rfl⟩
      refine ⟨_, rfl, ?_⟩
      refine vV (.bool false) ?_
      refine vE #[.agg (cnCells c),.int .i64 now,.pointer (some ⟨w.heap.size, 0, none⟩),U,.pointer (some ⟨w.heap.size + 1, 0, none⟩),.slice none 0 0,.pointer (some ⟨g, 0, none⟩),.agg (cnCells c),.int .i64 now,.pointer (some ⟨g, 0, none⟩),.agg (cnCells c),.bool true,.bool true,.int .i64 now,.bool false,.bool false,U,U,U,U,U,U,U,U,U,U] ?_
      have eD : Hid (D = c) := hD.out.trans (by unfold tickC sendOk; rw [← hq.out, decide_eq_false hn]; rfl)
      have eS : Hid (XS = []) := hXS.out.trans (by unfold tickS sendOk; rw [← hq.out, decide_eq_false hn]; rfl)
      go_upto_region 4 with (fail)
      have hRz : Raw (w.heap.size + 1) (cnCells { c with pa := some ⟨pg, 0, none⟩, pc := c.pn }).size qw3 := ⟨cnCells cnZero, rfl, Z⟩
      refine wp_region_keep (wb := qw3) (w.heap.size + 1) (cnCells { c with pa := some ⟨pg, 0, none⟩, pc := c.pn }) (fun i x v => match i with
          | 0 => v = .pointer (some ⟨g, 0, none⟩)
          | 1 => v = .pointer (some ⟨g, 0, none⟩)
          | 2 => v = .pointer (some ⟨g, 0, none⟩)
          | 3 => v = .agg (cnCells { c with pa := some ⟨pg, 0, none⟩, pc := c.pn })
          | 4 => v = .pointer (some ⟨g, 0, none⟩)
          | 5 => v = .pointer (some ⟨g, 0, none⟩)
          | 6 => v = .pointer (some ⟨g, 38, none⟩)
          | 7 => v = .slice (some ⟨gs, 0, none⟩) 0 0
          | 9 => v = .slice (some ⟨gs, 0, none⟩) 0 0
          | 8 => Blk (w.heap.size + 1) x (cnCells { c with pa := some ⟨pg, 0, none⟩, pc := c.pn })
          | _ => True) (fun v => { tmps := #[.agg (cnCells c), .int .i64 now, .pointer (some ⟨w.heap.size, 0, none⟩), undef, .pointer (some ⟨w.heap.size + 1, 0, none⟩), v 9, .pointer (some ⟨g, 0, none⟩), .agg (cnCells c), .int .i64 now, .pointer (some ⟨g, 0, none⟩), .agg (cnCells c), .bool true, .bool true, .int .i64 now, .bool false, .bool false, undef, undef, v 0, v 1, v 2, v 3, v 4, v 5, v 6, v 7], defers := [] }) (by kernel_rfl) (by kernel_rfl) (by kernel_rfl) (KeepB.refl _ _ _) ?_ (fun vals => by kernel_rfl) ?_ ?_
      case refine_1 =>
        intro j x y v h1 h2
        match j, h2 with
        | 8, h2 => exact h1.done h2
        | 0, h2 | 1, h2 | 2, h2 | 3, h2 | 4, h2 | 5, h2 | 6, h2 | 7, h2 | 9, h2 => exact h2
        | n + 10, _ => trivial
      case refine_2 =>
        repeat (first | exact eachDoesR_nil | refine eachDoesR_cons ?_ ?_)
        all_goals intro vals x hx hv
        all_goals simp [Region.binds] at hv
        · simp [does, doesUpon, go_sem, hv, KeepB.refl]
        · refine does_store cn_big (cn_size _) (hx.raw hRz) (cn_one _) _ _ rfl rfl hv.1 ?_
          intro z t B
          exact ⟨keep_of t B, B⟩
        · have fl0 : x.cell? ⟨g, 38, none⟩ = some (.slice (some ⟨gs, 0, none⟩) 0 0) := (A1.touch hx.touch (by omega)).cell 38
          simp [does, doesUpon, go_sem, hv, fl0, KeepB.refl]
        · simp [does, doesUpon, go_sem, hv, KeepB.refl]
        · simp [does, doesUpon, go_sem, hv, KeepB.refl]
        · simp [does, doesUpon, go_sem, KeepB.refl]
        · exact does_end (A1.touch hx.touch (by omega)) _ rfl hv ⟨KeepB.refl _ _ _, rfl⟩
        · simp [does, doesUpon, go_sem, hv, KeepB.refl]
        · simp [does, doesUpon, go_sem, hv, KeepB.refl]
        · simp [does, doesUpon, go_sem, KeepB.refl]
      case refine_3 =>
        intro vals y hx hv
        have Zb : Blk (w.heap.size + 1) y (cnCells { c with pa := some ⟨pg, 0, none⟩, pc := c.pn }) := hv 8 (by decide)
        have hv0 : vals 0 = _ := hv 0 (by decide)
        have hv1 : vals 1 = _ := hv 1 (by decide)
        have hv2 : vals 2 = _ := hv 2 (by decide)
        have hv3 : vals 3 = _ := hv 3 (by decide)
        have hv4 : vals 4 = _ := hv 4 (by decide)
        have hv5 : vals 5 = _ := hv 5 (by decide)
        have hv6 : vals 6 = _ := hv 6 (by decide)
        have hv7 : vals 7 = _ := hv 7 (by decide)
        have hv9 : vals 9 = _ := hv 9 (by decide)
        clear hv
        simp only [hv0, hv1, hv2, hv3, hv4, hv5, hv6, hv7, hv9]
        have hT := hx.touch
        replace L1 := L1.touch hT (by omega)
        replace P1 := P1.touch hT (by omega)
        replace G := since_touch G hT (by omega)
        clear hv0 hv1 hv2 hv3 hv4 hv5 hv6 hv7 hv9
        go_wp2_with (fail)
        refine bodyPost_ret (results_cn2 (t := 4) (u := 5) rfl _ rfl Zb) rfl ⟨pg, gs, 0, 0, ?_, P1.raise (by omega), ?_, by omega, G⟩
        · rw [eD.out]; rfl
        · rw [eS.out]; exact L1.raise (by omega)
    case pos =>
      rw [decide_eq_true hn] at ht
      refine vR ?_
      refine vB cn_big A (cn_size _) ?_
      refine vK (hk _ (R.since G)) ?_
      intro qw3 qg4
      replace A := A.since qg4
      replace Z := Z.since qg4
      replace A1 := A1.since qg4
      replace L1 := L1.since qg4
      replace P1 := P1.since qg4
      replace G := G.trans qg4
      have qg4_s := qg4.size
      refine vV (.bool true) ?_
      refine vV (.int .i64 now) ?_
      refine vC (ht _) ?_
      rintro _ _ ⟨rfl, rfl⟩
      refine ⟨_, rfl, ?_⟩
      refine vV (.bool true) ?_
      refine vE #[.agg (cnCells c),.int .i64 now,.pointer (some ⟨w.heap.size, 0, none⟩),U,.pointer (some ⟨w.heap.size + 1, 0, none⟩),.slice none 0 0,.pointer (some ⟨g, 0, none⟩),.agg (cnCells c),.int .i64 now,.pointer (some ⟨g, 0, none⟩),.agg (cnCells c),.bool true,.bool true,.int .i64 now,.bool true,.bool true,U,U,U,U,U,U,U,U,U,U] ?_
      go_upto_region 3 with (fail)
      refine vR ?_
      refine vV (.pointer (some ⟨g, 0, none⟩)) ?_
      refine vC (implTick _ _ _ _ _ _ _ _ _ _ hn.1 hn.2 rfl (tickOk_of gc hq.out.symm _ _) _ ⟨A1, L1, P1, pa1, lo1, (by omega), (by omega), (by omega)⟩) ?_
      rintro _ qw5 ⟨rfl, ⟨gsqk7, nqk7, cqk7, ⟨Aqk7, Lqk7, Pqk7, paqk7, loqk7, iqk7, jqk7, lqk7⟩⟩, qh6⟩
      refine ⟨_, rfl, ?_⟩
      clear A1 L1 P1
      replace A := qh6.blk A (by omega)
      replace Z := qh6.blk Z (by omega)
      replace G := since_base G qh6 (by omega)
      have qh6_s := qh6.size
      have Aqk7_l := Aqk7.lt
      have Lqk7_l := Lqk7.lt
      have Lqk7_o := Lqk7.low'
      have Pqk7_l := Pqk7.lt
      refine vE #[.agg (cnCells c),.int .i64 now,.pointer (some ⟨w.heap.size, 0, none⟩),U,.pointer (some ⟨w.heap.size + 1, 0, none⟩),.slice none 0 0,.pointer (some ⟨g, 0, none⟩),.agg (cnCells c),.int .i64 now,.pointer (some ⟨g, 0, none⟩),.agg (cnCells c),.bool true,.bool true,.int .i64 now,.bool true,.bool true,.pointer (some ⟨g, 0, none⟩),.tuple #[],U,U,U,U,U,U,U,U] ?_
      rw [tick_at] at Aqk7 Lqk7 Pqk7 paqk7
      have eD : D = (tickX ps now c).1 := hD.out.trans (by unfold tickC sendOk; rw [← hq.out, decide_eq_true hn]; rfl)
      have eS : XS = (tickX ps now c).2 := hXS.out.trans (by unfold tickS sendOk; rw [← hq.out, decide_eq_true hn]; rfl)
      rw [← eD] at Aqk7 Pqk7 paqk7
      rw [← eS] at Lqk7
      have hpn : Hid (D.pn = c.pn) := by show D.pn = c.pn; rw [eD]; exact tick_pn ps now c
      replace eD : Hid _ := eD
      replace eS : Hid _ := eS
      go_upto_region 4 with (fail)
      have hRz : Raw (w.heap.size + 1) (cnCells { D with pa := some ⟨pg, 0, none⟩, pc := c.pn }).size qw5 := ⟨cnCells cnZero, rfl, Z⟩
      refine wp_region_keep (wb := qw5) (w.heap.size + 1) (cnCells { D with pa := some ⟨pg, 0, none⟩, pc := c.pn }) (fun i x v => match i with
          | 0 => v = .pointer (some ⟨g, 0, none⟩)
          | 1 => v = .pointer (some ⟨g, 0, none⟩)
          | 2 => v = .pointer (some ⟨g, 0, none⟩)
          | 3 => v = .agg (cnCells { D with pa := some ⟨pg, 0, none⟩, pc := c.pn })
          | 4 => v = .pointer (some ⟨g, 0, none⟩)
          | 5 => v = .pointer (some ⟨g, 0, none⟩)
          | 6 => v = .pointer (some ⟨g, 38, none⟩)
          | 7 => v = .slice (some ⟨gsqk7, 0, none⟩) nqk7 cqk7
          | 9 => v = .slice (some ⟨gsqk7, 0, none⟩) nqk7 cqk7
          | 8 => Blk (w.heap.size + 1) x (cnCells { D with pa := some ⟨pg, 0, none⟩, pc := c.pn })
          | _ => True) (fun v => { tmps := #[.agg (cnCells c), .int .i64 now, .pointer (some ⟨w.heap.size, 0, none⟩), undef, .pointer (some ⟨w.heap.size + 1, 0, none⟩), v 9, .pointer (some ⟨g, 0, none⟩), .agg (cnCells c), .int .i64 now, .pointer (some ⟨g, 0, none⟩), .agg (cnCells c), .bool true, .bool true, .int .i64 now, .bool true, .bool true, .pointer (some ⟨g, 0, none⟩), .tuple #[], v 0, v 1, v 2, v 3, v 4, v 5, v 6, v 7], defers := [] }) (by kernel_rfl) (by kernel_rfl) (by kernel_rfl) (KeepB.refl _ _ _) ?_ (fun vals => by kernel_rfl) ?_ ?_
      case refine_1 =>
        intro j x y v h1 h2
        match j, h2 with
        | 8, h2 => exact h1.done h2
        | 0, h2 | 1, h2 | 2, h2 | 3, h2 | 4, h2 | 5, h2 | 6, h2 | 7, h2 | 9, h2 => exact h2
        | n + 10, _ => trivial
      case refine_2 =>
        repeat (first | exact eachDoesR_nil | refine eachDoesR_cons ?_ ?_)
        all_goals intro vals x hx hv
        all_goals simp [Region.binds] at hv
        · simp [does, doesUpon, go_sem, hv, KeepB.refl]
        · refine does_store cn_big (cn_size _) (hx.raw hRz) (cn_one _) _ _ rfl rfl hv.1 ?_
          intro z t B
          exact ⟨keep_of t B, B⟩
        · have fl0 : x.cell? ⟨g, 38, none⟩ = some (.slice (some ⟨gsqk7, 0, none⟩) nqk7 cqk7) := (Aqk7.touch hx.touch (by omega)).cell 38
          simp [does, doesUpon, go_sem, hv, fl0, KeepB.refl]
        · simp [does, doesUpon, go_sem, hv, KeepB.refl]
        · simp [does, doesUpon, go_sem, hv, KeepB.refl]
        · simp [does, doesUpon, go_sem, KeepB.refl]
        · exact does_end (Aqk7.touch hx.touch (by omega)) _ rfl hv ⟨KeepB.refl _ _ _, rfl⟩
        · simp [does, doesUpon, go_sem, hv, KeepB.refl]
        · simp [does, doesUpon, go_sem, hv, KeepB.refl]
        · simp [does, doesUpon, go_sem, KeepB.refl]
      case refine_3 =>
        intro vals y hx hv
        have Zb : Blk (w.heap.size + 1) y (cnCells { D with pa := some ⟨pg, 0, none⟩, pc := c.pn }) := hv 8 (by decide)
        have hv0 : vals 0 = _ := hv 0 (by decide)
        have hv1 : vals 1 = _ := hv 1 (by decide)
        have hv2 : vals 2 = _ := hv 2 (by decide)
        have hv3 : vals 3 = _ := hv 3 (by decide)
        have hv4 : vals 4 = _ := hv 4 (by decide)
        have hv5 : vals 5 = _ := hv 5 (by decide)
        have hv6 : vals 6 = _ := hv 6 (by decide)
        have hv7 : vals 7 = _ := hv 7 (by decide)
        have hv9 : vals 9 = _ := hv 9 (by decide)
        clear hv
        simp only [hv0, hv1, hv2, hv3, hv4, hv5, hv6, hv7, hv9]
        have hT := hx.touch
        replace Lqk7 := Lqk7.touch hT (by omega)
        replace Pqk7 := Pqk7.touch hT (by omega)
        replace G := since_touch G hT (by omega)
        clear hv0 hv1 hv2 hv3 hv4 hv5 hv6 hv7 hv9
        go_wp2_with (fail)
        refine bodyPost_ret (results_cn2 (t := 4) (u := 5) rfl _ rfl Zb) rfl ⟨pg, gsqk7, nqk7, cqk7, ?_, (by have h := Pqk7; rw [show ({ D with pa := some ⟨pg, 0, none⟩, pc := c.pn } : Cn).pn = c.pn from hpn.out] at h; exact h.raise (by omega)), ?_, by omega, G⟩
        · rfl
        · exact Lqk7.raise (by omega)
end Go.Proofs.YtfenlfijfjcdbaaGreat
