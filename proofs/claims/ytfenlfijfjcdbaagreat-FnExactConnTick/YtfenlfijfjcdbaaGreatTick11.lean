/-
  What is due at an end, as spec does it.
-/
import Derived.Test.YtfenlfijfjcdbaaGreatM7
import Derived.Test.YtfenlfijfjcdbaaGreatTick11U
import Derived.Test.YtfenlfijfjcdbaaGreatTick11I
import Derived.Test.YtfenlfijfjcdbaaGreatCopy11
import Derived.Test.YtfenlfijfjcdbaaGreatSend11
import Derived.Test.YtfenlfijfjcdbaaGreatSend11I
import Derived.Deep.DeepCutAuto
namespace Go.Proofs.YtfenlfijfjcdbaaGreat
open Go.ChangeShapes Go.WideShapes Go.ChangeAt Go.RowKit
set_option linter.unusedVariables false
set_option maxRecDepth 10000

theorem post_mono {P : Program} {fn : Func} {R R' : Ending → World → Prop} (h : ∀ e w, R e w → R' e w) (e : Exit) (a : Act) (w : World) (q : bodyPost P fn R e a w) : bodyPost P fn R' e a w := by
  cases e <;> simp only [bodyPost] at q ⊢ <;> first | exact q | exact h _ _ q | exact ⟨q.1, h _ _ q.2⟩ | (obtain ⟨hd, v, hr, hR⟩ := q; exact ⟨hd, v, hr, h _ _ hR⟩)

set_option maxRecDepth 20000 in
set_option maxHeartbeats 16000000 in
theorem specConnTick (c : Cn) (ps : List (Int × ByteArray)) (now : Int) (gc : GoodC c ps) (hnil : c.pa = none → c.pc = 0) (w : World) (R : Rd shP w c.pa c.pn ps) :
    Calls Tryz.prog 5 #[.agg (cnCells c), .int .i64 now] w fun e w' => ∃ g cp gl n cl, e = .returned (.tuple #[.agg (cnCells { tickC c ps now with pa := some ⟨g, 0, none⟩, pc := cp }), .slice (some ⟨gl, 0, none⟩) n cl]) ∧ Held shP w' w.heap.size g c.pn cp ps ∧ Held shG w' w.heap.size gl n cl (tickS c ps now) ∧ Since w w' := by
  have hc := fun wx Rx => specCopied c ps gc hnil wx Rx
  have hk := fun g cp wx Rx => specOkAt c ps gc g cp wx Rx
  have hl := fun wx => specIn now 0 1000000000 wx
  unfold cnVal at hc
  obtain ⟨q, hq⟩ : ∃ q, Hid (q = connOk c ps) := ⟨_, rfl⟩
  rw [← hq.out] at hk
  obtain ⟨D, hD⟩ : ∃ q, Hid (q = tickC c ps now) := ⟨_, rfl⟩
  obtain ⟨XS, hXS⟩ : ∃ q, Hid (q = tickS c ps now) := ⟨_, rfl⟩
  rw [← hD.out, ← hXS.out]
  obtain ⟨b0, hb0⟩ : ∃ q, Hid (q = (c.st == 0)) := ⟨_, rfl⟩
  obtain ⟨b9, hb9⟩ : ∃ q, Hid (q = (c.st == 9)) := ⟨_, rfl⟩
  obtain ⟨bR, hbR⟩ : ∃ q, Hid (q = decide (c.rst ≤ now)) := ⟨_, rfl⟩
  go_enter Tryz.func5, Tryz.ntmps5
  go_upto_region 1 with (fail)
  rw [cn_zero]
  have G := ((Since.refl w).alloc (.cells (cnCells c) 42)).alloc (.cells (cnCells cnZero) 42)
  have A := (Blk.new w (cnCells c) 42).since ((Since.refl _).alloc (.cells (cnCells cnZero) 42))
  have Z := Blk.new (w.alloc (.cells (cnCells c) 42)) (cnCells cnZero) 42
  rw [World.size_alloc] at Z
  replace R := R.since G
  generalize (w.alloc (.cells (cnCells c) 42)).alloc (.cells (cnCells cnZero) 42) = x0 at A Z G R ⊢
  have hZ := Z.lt
  refine vR ?_
  refine vB cn_big A (cn_size _) ?_
  refine vC (hc _ R) ?_
  rintro _ qw1 ⟨g, cp, rfl, H, qg2⟩
  refine ⟨_, rfl, ?_⟩
  replace A := A.since qg2
  replace Z := Z.since qg2
  replace R := R.since qg2
  replace G := G.trans qg2
  have qg2_s := qg2.size
  have hH0 := H.low'
  replace H := H.raise (show w.heap.size ≤ g by omega)
  have hH := H.lt
  clear R
  refine sB (cnCells { c with pa := some ⟨g, 0, none⟩, pc := cp }) cn_big A (cn_size _) (cn_size _) (cn_one _) ?_
  intro qw3 qt4 qB5
  clear A
  replace Z := Z.touch qt4 (by omega)
  replace H := H.touch qt4 (by omega)
  replace G := since_touch G qt4 (by omega)
  have qt4_s := qt4.size
  refine vE #[.agg (cnCells c),.int .i64 now,.pointer (some ⟨w.heap.size, 0, none⟩),U,.pointer (some ⟨w.heap.size + 1, 0, none⟩),.slice none 0 0,U,U,U,U,.agg (cnCells c),.agg (cnCells { c with pa := some ⟨g, 0, none⟩, pc := cp }),U,U,U,U,U,U,U,U,U,U,U,U,U,U,U,U,U,U,U,U,U,U,U,U,U,U,U,U,U,U,U,U,U,U,U,U,U,U,U,U,U,U,U,U,U,U,U,U,U,U,U,U,U,U,U,U,U,U,U,U,U,U,U,U,U,U,U,U,U,U,U,U,U,U,U,U,U,U,U,U,U,U,U,U,U,U,U,U,U,U,U,U,U,U,U,U,U,U,U,U,U,U,U,U,U,U,U,U,U,U,U,U,U,U,U,U,U,U,U,U,U,U,U,U,U,U,U,U,U,U,U,U,U,U,U,U,U,U,U,U,U,U,U,U,U,U,U,U,U,U,U,U,U,U,U,U,U,U,U,U,U,U,U,U,U,U,U,U,U,U,U,U,U,U,U,U] ?_
  go_upto_region 2 with (fail)
  refine vR ?_
  refine vW (qw3.alloc (.cells #[] 61)) (.slice (some ⟨qw3.heap.size, 0, none⟩) 0 0) ?_
  have qL7 := heldG0 qw3
  have qg8 := (Since.refl qw3).alloc (.cells #[] 61)
  replace qB5 := qB5.since qg8
  replace Z := Z.since qg8
  replace H := H.since qg8
  replace G := G.trans qg8
  generalize qw3.alloc (.cells #[] 61) = qw6 at qB5 Z H G qL7 qg8 ⊢
  have qg8_s := qg8.size
  have qL7_g := G.size
  have qL7_l := qL7.lt
  replace qL7 := qL7.raise (show w.heap.size ≤ qw3.heap.size by omega)
  refine vV (.slice (some ⟨qw3.heap.size, 0, none⟩) 0 0) ?_
  refine vE #[.agg (cnCells c),.int .i64 now,.pointer (some ⟨w.heap.size, 0, none⟩),U,.pointer (some ⟨w.heap.size + 1, 0, none⟩),.slice none 0 0,.slice (some ⟨qw3.heap.size, 0, none⟩) 0 0,U,U,U,.agg (cnCells c),.agg (cnCells { c with pa := some ⟨g, 0, none⟩, pc := cp }),.slice (some ⟨qw3.heap.size, 0, none⟩) 0 0,U,U,U,U,U,U,U,U,U,U,U,U,U,U,U,U,U,U,U,U,U,U,U,U,U,U,U,U,U,U,U,U,U,U,U,U,U,U,U,U,U,U,U,U,U,U,U,U,U,U,U,U,U,U,U,U,U,U,U,U,U,U,U,U,U,U,U,U,U,U,U,U,U,U,U,U,U,U,U,U,U,U,U,U,U,U,U,U,U,U,U,U,U,U,U,U,U,U,U,U,U,U,U,U,U,U,U,U,U,U,U,U,U,U,U,U,U,U,U,U,U,U,U,U,U,U,U,U,U,U,U,U,U,U,U,U,U,U,U,U,U,U,U,U,U,U,U,U,U,U,U,U,U,U,U,U,U,U,U,U,U,U,U,U,U,U,U,U,U,U,U,U,U,U,U] ?_
  go_upto_region 3 with (fail)
  cases q
  case false =>
    have eD : Hid (D = c) := hD.out.trans (by unfold tickC sendOk; rw [← hq.out]; rfl)
    have eS : Hid (XS = []) := hXS.out.trans (by unfold tickS sendOk; rw [← hq.out]; rfl)
    refine vR ?_
    refine vB cn_big qB5 (cn_size _) ?_
    refine vK (hk g cp _ H.reads) ?_
    intro qw9 qg10
    replace qB5 := qB5.since qg10
    replace Z := Z.since qg10
    replace H := H.since qg10
    replace qL7 := qL7.since qg10
    replace G := G.trans qg10
    have qg10_s := qg10.size
    refine vV (.bool true) ?_
    refine vV (.bool true) ?_
    refine vS ?_
    refine vS ?_
    refine vS ?_
    refine vV (.bool true) ?_
    refine vV (.bool true) ?_
    refine vS ?_
    refine vS ?_
    refine vS ?_
    refine vV (.bool true) ?_
    refine vE #[.agg (cnCells c),.int .i64 now,.pointer (some ⟨w.heap.size, 0, none⟩),U,.pointer (some ⟨w.heap.size + 1, 0, none⟩),.slice none 0 0,.slice (some ⟨qw3.heap.size, 0, none⟩) 0 0,U,U,U,.agg (cnCells c),.agg (cnCells { c with pa := some ⟨g, 0, none⟩, pc := cp }),.slice (some ⟨qw3.heap.size, 0, none⟩) 0 0,.agg (cnCells { c with pa := some ⟨g, 0, none⟩, pc := cp }),.bool false,.bool true,.bool true,U,U,U,.bool true,.bool true,U,U,U,.bool true,U,U,U,U,U,U,U,U,U,U,U,U,U,U,U,U,U,U,U,U,U,U,U,U,U,U,U,U,U,U,U,U,U,U,U,U,U,U,U,U,U,U,U,U,U,U,U,U,U,U,U,U,U,U,U,U,U,U,U,U,U,U,U,U,U,U,U,U,U,U,U,U,U,U,U,U,U,U,U,U,U,U,U,U,U,U,U,U,U,U,U,U,U,U,U,U,U,U,U,U,U,U,U,U,U,U,U,U,U,U,U,U,U,U,U,U,U,U,U,U,U,U,U,U,U,U,U,U,U,U,U,U,U,U,U,U,U,U,U,U,U,U,U,U,U,U,U,U,U,U,U,U,U,U,U,U,U,U,U,U,U,U] ?_
    go_upto_region 4 with (fail)
    refine vR ?_
    refine vB cn_big qB5 (cn_size _) ?_
    refine vV (.slice (some ⟨qw3.heap.size, 0, none⟩) 0 0) ?_
    refine sB (cnCells { c with pa := some ⟨g, 0, none⟩, pc := cp }) cn_big Z (cn_size _) (cn_size _) (cn_one _) ?_
    intro qw11 qt12 qB13
    clear Z
    replace qB5 := qB5.touch qt12 (by omega)
    replace H := H.touch qt12 (by omega)
    replace qL7 := qL7.touch qt12 (by omega)
    replace G := since_touch G qt12 (by omega)
    have qt12_s := qt12.size
    refine vV (.slice (some ⟨qw3.heap.size, 0, none⟩) 0 0) ?_
    refine vE #[.agg (cnCells c),.int .i64 now,.pointer (some ⟨w.heap.size, 0, none⟩),U,.pointer (some ⟨w.heap.size + 1, 0, none⟩),.slice (some ⟨qw3.heap.size, 0, none⟩) 0 0,.slice (some ⟨qw3.heap.size, 0, none⟩) 0 0,U,U,U,.agg (cnCells c),.agg (cnCells { c with pa := some ⟨g, 0, none⟩, pc := cp }),.slice (some ⟨qw3.heap.size, 0, none⟩) 0 0,.agg (cnCells { c with pa := some ⟨g, 0, none⟩, pc := cp }),.bool false,.bool true,.bool true,U,U,U,.bool true,.bool true,U,U,U,.bool true,.agg (cnCells { c with pa := some ⟨g, 0, none⟩, pc := cp }),.slice (some ⟨qw3.heap.size, 0, none⟩) 0 0,U,U,U,U,U,U,U,U,U,U,U,U,U,U,U,U,U,U,U,U,U,U,U,U,U,U,U,U,U,U,U,U,U,U,U,U,U,U,U,U,U,U,U,U,U,U,U,U,U,U,U,U,U,U,U,U,U,U,U,U,U,U,U,U,U,U,U,U,U,U,U,U,U,U,U,U,U,U,U,U,U,U,U,U,U,U,U,U,U,U,U,U,U,U,U,U,U,U,U,U,U,U,U,U,U,U,U,U,U,U,U,U,U,U,U,U,U,U,U,U,U,U,U,U,U,U,U,U,U,U,U,U,U,U,U,U,U,U,U,U,U,U,U,U,U,U,U,U,U,U,U,U,U,U,U,U,U,U,U,U] ?_
    go_wp2_with (fail)
    exact bodyPost_ret (results_cn2 (t := 4) (u := 5) rfl _ rfl qB13) rfl ⟨g, cp, _, _, _, by rw [eD.out]; rfl, H, by rw [eS.out]; exact qL7, G⟩
  case true =>
    by_cases hn : 0 ≤ now ∧ now ≤ 1000000000
    case neg =>
      rw [show decide (0 ≤ now ∧ now ≤ 1000000000) = false from decide_eq_false hn] at hl
      have eD : Hid (D = c) := hD.out.trans (by unfold tickC sendOk; rw [← hq.out, decide_eq_false hn]; rfl)
      have eS : Hid (XS = []) := hXS.out.trans (by unfold tickS sendOk; rw [← hq.out, decide_eq_false hn]; rfl)
      refine vR ?_
      refine vB cn_big qB5 (cn_size _) ?_
      refine vK (hk g cp _ H.reads) ?_
      intro qw9 qg10
      replace qB5 := qB5.since qg10
      replace Z := Z.since qg10
      replace H := H.since qg10
      replace qL7 := qL7.since qg10
      replace G := G.trans qg10
      have qg10_s := qg10.size
      refine vV (.bool false) ?_
      refine vV (.bool false) ?_
      refine vV (.int .i64 now) ?_
      refine vC (hl _) ?_
      rintro _ _ ⟨rfl, rfl⟩
      refine ⟨_, rfl, ?_⟩
      refine vV (.bool true) ?_
      refine vV (.bool true) ?_
      refine vV (.bool true) ?_
      refine vS ?_
      refine vS ?_
      refine vS ?_
      refine vV (.bool true) ?_
      refine vE #[.agg (cnCells c),.int .i64 now,.pointer (some ⟨w.heap.size, 0, none⟩),U,.pointer (some ⟨w.heap.size + 1, 0, none⟩),.slice none 0 0,.slice (some ⟨qw3.heap.size, 0, none⟩) 0 0,U,U,U,.agg (cnCells c),.agg (cnCells { c with pa := some ⟨g, 0, none⟩, pc := cp }),.slice (some ⟨qw3.heap.size, 0, none⟩) 0 0,.agg (cnCells { c with pa := some ⟨g, 0, none⟩, pc := cp }),.bool true,.bool false,.bool false,.int .i64 now,.bool false,.bool true,.bool true,.bool true,U,U,U,.bool true,U,U,U,U,U,U,U,U,U,U,U,U,U,U,U,U,U,U,U,U,U,U,U,U,U,U,U,U,U,U,U,U,U,U,U,U,U,U,U,U,U,U,U,U,U,U,U,U,U,U,U,U,U,U,U,U,U,U,U,U,U,U,U,U,U,U,U,U,U,U,U,U,U,U,U,U,U,U,U,U,U,U,U,U,U,U,U,U,U,U,U,U,U,U,U,U,U,U,U,U,U,U,U,U,U,U,U,U,U,U,U,U,U,U,U,U,U,U,U,U,U,U,U,U,U,U,U,U,U,U,U,U,U,U,U,U,U,U,U,U,U,U,U,U,U,U,U,U,U,U,U,U,U,U,U,U,U,U,U,U,U,U] ?_
      go_upto_region 4 with (fail)
      refine vR ?_
      refine vB cn_big qB5 (cn_size _) ?_
      refine vV (.slice (some ⟨qw3.heap.size, 0, none⟩) 0 0) ?_
      refine sB (cnCells { c with pa := some ⟨g, 0, none⟩, pc := cp }) cn_big Z (cn_size _) (cn_size _) (cn_one _) ?_
      intro qw11 qt12 qB13
      clear Z
      replace qB5 := qB5.touch qt12 (by omega)
      replace H := H.touch qt12 (by omega)
      replace qL7 := qL7.touch qt12 (by omega)
      replace G := since_touch G qt12 (by omega)
      have qt12_s := qt12.size
      refine vV (.slice (some ⟨qw3.heap.size, 0, none⟩) 0 0) ?_
      refine vE #[.agg (cnCells c),.int .i64 now,.pointer (some ⟨w.heap.size, 0, none⟩),U,.pointer (some ⟨w.heap.size + 1, 0, none⟩),.slice (some ⟨qw3.heap.size, 0, none⟩) 0 0,.slice (some ⟨qw3.heap.size, 0, none⟩) 0 0,U,U,U,.agg (cnCells c),.agg (cnCells { c with pa := some ⟨g, 0, none⟩, pc := cp }),.slice (some ⟨qw3.heap.size, 0, none⟩) 0 0,.agg (cnCells { c with pa := some ⟨g, 0, none⟩, pc := cp }),.bool true,.bool false,.bool false,.int .i64 now,.bool false,.bool true,.bool true,.bool true,U,U,U,.bool true,.agg (cnCells { c with pa := some ⟨g, 0, none⟩, pc := cp }),.slice (some ⟨qw3.heap.size, 0, none⟩) 0 0,U,U,U,U,U,U,U,U,U,U,U,U,U,U,U,U,U,U,U,U,U,U,U,U,U,U,U,U,U,U,U,U,U,U,U,U,U,U,U,U,U,U,U,U,U,U,U,U,U,U,U,U,U,U,U,U,U,U,U,U,U,U,U,U,U,U,U,U,U,U,U,U,U,U,U,U,U,U,U,U,U,U,U,U,U,U,U,U,U,U,U,U,U,U,U,U,U,U,U,U,U,U,U,U,U,U,U,U,U,U,U,U,U,U,U,U,U,U,U,U,U,U,U,U,U,U,U,U,U,U,U,U,U,U,U,U,U,U,U,U,U,U,U,U,U,U,U,U,U,U,U,U,U,U,U,U,U,U,U,U] ?_
      go_wp2_with (fail)
      exact bodyPost_ret (results_cn2 (t := 4) (u := 5) rfl _ rfl qB13) rfl ⟨g, cp, _, _, _, by rw [eD.out]; rfl, H, by rw [eS.out]; exact qL7, G⟩
    case pos =>
      rw [show decide (0 ≤ now ∧ now ≤ 1000000000) = true from decide_eq_true hn] at hl
      have eD : D = (tickX ps now c).1 := hD.out.trans (by unfold tickC sendOk; rw [← hq.out, decide_eq_true hn]; rfl)
      have eS : XS = (tickX ps now c).2 := hXS.out.trans (by unfold tickS sendOk; rw [← hq.out, decide_eq_true hn]; rfl)
      cases b0
      case true =>
        have hX : tickX ps now c = (c, []) := if_pos (by simpa using hb0.out.symm)
        rw [hX] at eD eS
        replace eD : Hid (D = c) := eD
        replace eS : Hid (XS = []) := eS
        refine vR ?_
        refine vB cn_big qB5 (cn_size _) ?_
        refine vK (hk g cp _ H.reads) ?_
        intro qw9 qg10
        replace qB5 := qB5.since qg10
        replace Z := Z.since qg10
        replace H := H.since qg10
        replace qL7 := qL7.since qg10
        replace G := G.trans qg10
        have qg10_s := qg10.size
        refine vV (.bool false) ?_
        refine vV (.bool false) ?_
        refine vV (.int .i64 now) ?_
        refine vC (hl _) ?_
        rintro _ _ ⟨rfl, rfl⟩
        refine ⟨_, rfl, ?_⟩
        refine vV (.bool false) ?_
        refine vV (.bool false) ?_
        refine vV (.bool false) ?_
        refine vV (.pointer (some ⟨w.heap.size, 0, none⟩)) ?_
        refine vD (.int .i64 c.st) (qB5.cell 0) ?_
        refine vV (.bool true) ?_ (hrun := by rw [show true = (c.st == 0) from hb0.out]; kernel_rfl)
        refine vV (.bool true) ?_
        refine vE #[.agg (cnCells c),.int .i64 now,.pointer (some ⟨w.heap.size, 0, none⟩),U,.pointer (some ⟨w.heap.size + 1, 0, none⟩),.slice none 0 0,.slice (some ⟨qw3.heap.size, 0, none⟩) 0 0,U,U,U,.agg (cnCells c),.agg (cnCells { c with pa := some ⟨g, 0, none⟩, pc := cp }),.slice (some ⟨qw3.heap.size, 0, none⟩) 0 0,.agg (cnCells { c with pa := some ⟨g, 0, none⟩, pc := cp }),.bool true,.bool false,.bool false,.int .i64 now,.bool true,.bool false,.bool false,.bool false,.pointer (some ⟨w.heap.size, 0, none⟩),.int .i64 c.st,.bool true,.bool true,U,U,U,U,U,U,U,U,U,U,U,U,U,U,U,U,U,U,U,U,U,U,U,U,U,U,U,U,U,U,U,U,U,U,U,U,U,U,U,U,U,U,U,U,U,U,U,U,U,U,U,U,U,U,U,U,U,U,U,U,U,U,U,U,U,U,U,U,U,U,U,U,U,U,U,U,U,U,U,U,U,U,U,U,U,U,U,U,U,U,U,U,U,U,U,U,U,U,U,U,U,U,U,U,U,U,U,U,U,U,U,U,U,U,U,U,U,U,U,U,U,U,U,U,U,U,U,U,U,U,U,U,U,U,U,U,U,U,U,U,U,U,U,U,U,U,U,U,U,U,U,U,U,U,U,U,U,U,U,U,U,U] ?_
        go_upto_region 4 with (fail)
        refine vR ?_
        refine vB cn_big qB5 (cn_size _) ?_
        refine vV (.slice (some ⟨qw3.heap.size, 0, none⟩) 0 0) ?_
        refine sB (cnCells { c with pa := some ⟨g, 0, none⟩, pc := cp }) cn_big Z (cn_size _) (cn_size _) (cn_one _) ?_
        intro qw11 qt12 qB13
        clear Z
        replace qB5 := qB5.touch qt12 (by omega)
        replace H := H.touch qt12 (by omega)
        replace qL7 := qL7.touch qt12 (by omega)
        replace G := since_touch G qt12 (by omega)
        have qt12_s := qt12.size
        refine vV (.slice (some ⟨qw3.heap.size, 0, none⟩) 0 0) ?_
        refine vE #[.agg (cnCells c),.int .i64 now,.pointer (some ⟨w.heap.size, 0, none⟩),U,.pointer (some ⟨w.heap.size + 1, 0, none⟩),.slice (some ⟨qw3.heap.size, 0, none⟩) 0 0,.slice (some ⟨qw3.heap.size, 0, none⟩) 0 0,U,U,U,.agg (cnCells c),.agg (cnCells { c with pa := some ⟨g, 0, none⟩, pc := cp }),.slice (some ⟨qw3.heap.size, 0, none⟩) 0 0,.agg (cnCells { c with pa := some ⟨g, 0, none⟩, pc := cp }),.bool true,.bool false,.bool false,.int .i64 now,.bool true,.bool false,.bool false,.bool false,.pointer (some ⟨w.heap.size, 0, none⟩),.int .i64 c.st,.bool true,.bool true,.agg (cnCells { c with pa := some ⟨g, 0, none⟩, pc := cp }),.slice (some ⟨qw3.heap.size, 0, none⟩) 0 0,U,U,U,U,U,U,U,U,U,U,U,U,U,U,U,U,U,U,U,U,U,U,U,U,U,U,U,U,U,U,U,U,U,U,U,U,U,U,U,U,U,U,U,U,U,U,U,U,U,U,U,U,U,U,U,U,U,U,U,U,U,U,U,U,U,U,U,U,U,U,U,U,U,U,U,U,U,U,U,U,U,U,U,U,U,U,U,U,U,U,U,U,U,U,U,U,U,U,U,U,U,U,U,U,U,U,U,U,U,U,U,U,U,U,U,U,U,U,U,U,U,U,U,U,U,U,U,U,U,U,U,U,U,U,U,U,U,U,U,U,U,U,U,U,U,U,U,U,U,U,U,U,U,U,U,U,U,U,U,U] ?_
        go_wp2_with (fail)
        exact bodyPost_ret (results_cn2 (t := 4) (u := 5) rfl _ rfl qB13) rfl ⟨g, cp, _, _, _, by rw [eD.out]; rfl, H, by rw [eS.out]; exact qL7, G⟩
      case false =>
        have hs0 : ¬ c.st = 0 := by simpa using hb0.out.symm
        refine vR ?_
        refine vB cn_big qB5 (cn_size _) ?_
        refine vK (hk g cp _ H.reads) ?_
        intro qw9 qg10
        replace qB5 := qB5.since qg10
        replace Z := Z.since qg10
        replace H := H.since qg10
        replace qL7 := qL7.since qg10
        replace G := G.trans qg10
        have qg10_s := qg10.size
        refine vV (.bool false) ?_
        refine vV (.bool false) ?_
        refine vV (.int .i64 now) ?_
        refine vC (hl _) ?_
        rintro _ _ ⟨rfl, rfl⟩
        refine ⟨_, rfl, ?_⟩
        refine vV (.bool false) ?_
        refine vV (.bool false) ?_
        refine vV (.bool false) ?_
        refine vV (.pointer (some ⟨w.heap.size, 0, none⟩)) ?_
        refine vD (.int .i64 c.st) (qB5.cell 0) ?_
        refine vV (.bool false) ?_ (hrun := by rw [show false = (c.st == 0) from hb0.out]; kernel_rfl)
        refine vV (.bool false) ?_
        refine vE #[.agg (cnCells c),.int .i64 now,.pointer (some ⟨w.heap.size, 0, none⟩),U,.pointer (some ⟨w.heap.size + 1, 0, none⟩),.slice none 0 0,.slice (some ⟨qw3.heap.size, 0, none⟩) 0 0,U,U,U,.agg (cnCells c),.agg (cnCells { c with pa := some ⟨g, 0, none⟩, pc := cp }),.slice (some ⟨qw3.heap.size, 0, none⟩) 0 0,.agg (cnCells { c with pa := some ⟨g, 0, none⟩, pc := cp }),.bool true,.bool false,.bool false,.int .i64 now,.bool true,.bool false,.bool false,.bool false,.pointer (some ⟨w.heap.size, 0, none⟩),.int .i64 c.st,.bool false,.bool false,U,U,U,U,U,U,U,U,U,U,U,U,U,U,U,U,U,U,U,U,U,U,U,U,U,U,U,U,U,U,U,U,U,U,U,U,U,U,U,U,U,U,U,U,U,U,U,U,U,U,U,U,U,U,U,U,U,U,U,U,U,U,U,U,U,U,U,U,U,U,U,U,U,U,U,U,U,U,U,U,U,U,U,U,U,U,U,U,U,U,U,U,U,U,U,U,U,U,U,U,U,U,U,U,U,U,U,U,U,U,U,U,U,U,U,U,U,U,U,U,U,U,U,U,U,U,U,U,U,U,U,U,U,U,U,U,U,U,U,U,U,U,U,U,U,U,U,U,U,U,U,U,U,U,U,U,U,U,U,U,U,U] ?_
        go_upto_region 5 with (fail)
        rename_i hK9 Ki hKi
        replace hK9 : Hid _ := hK9
        cases b9
        case true =>
          cases bR
          case true =>
            have hX : tickX ps now c = (endC c 0, []) := (if_neg hs0).trans (if_pos ⟨by simpa using hb9.out.symm, by simpa using hbR.out.symm⟩)
            rw [hX] at eD eS
            replace eD : Hid (D = endC c 0) := eD
            replace eS : Hid (XS = []) := eS
            have hen := fun wx => specEnd { c with pa := some ⟨g, 0, none⟩, pc := cp } 0 wx
            unfold cnVal at hen
            replace hs0 : Hid _ := hs0
            refine vR ?_
            refine vV (.pointer (some ⟨w.heap.size, 0, none⟩)) ?_
            refine vD (.int .i64 c.st) (qB5.cell 0) ?_
            refine vV (.bool true) ?_ (hrun := by rw [show true = (c.st == 9) from hb9.out]; kernel_rfl)
            refine vV (.bool true) ?_
            refine vV (.pointer (some ⟨w.heap.size, 33, none⟩)) ?_
            refine vD (.int .i64 c.rst) (qB5.cell 33) ?_
            refine vV (.int .i64 now) ?_
            refine vV (.bool true) ?_ (hrun := by rw [show true = decide (c.rst ≤ now) from hbR.out]; kernel_rfl)
            refine vV (.bool true) ?_
            refine vE #[.agg (cnCells c),.int .i64 now,.pointer (some ⟨w.heap.size, 0, none⟩),U,.pointer (some ⟨w.heap.size + 1, 0, none⟩),.slice none 0 0,.slice (some ⟨qw3.heap.size, 0, none⟩) 0 0,U,U,U,.agg (cnCells c),.agg (cnCells { c with pa := some ⟨g, 0, none⟩, pc := cp }),.slice (some ⟨qw3.heap.size, 0, none⟩) 0 0,.agg (cnCells { c with pa := some ⟨g, 0, none⟩, pc := cp }),.bool true,.bool false,.bool false,.int .i64 now,.bool true,.bool false,.bool false,.bool false,.pointer (some ⟨w.heap.size, 0, none⟩),.int .i64 c.st,.bool false,.bool false,U,U,.pointer (some ⟨w.heap.size, 0, none⟩),.int .i64 c.st,.bool true,.bool true,.pointer (some ⟨w.heap.size, 33, none⟩),.int .i64 c.rst,.int .i64 now,.bool true,.bool true,U,U,U,U,U,U,U,U,U,U,U,U,U,U,U,U,U,U,U,U,U,U,U,U,U,U,U,U,U,U,U,U,U,U,U,U,U,U,U,U,U,U,U,U,U,U,U,U,U,U,U,U,U,U,U,U,U,U,U,U,U,U,U,U,U,U,U,U,U,U,U,U,U,U,U,U,U,U,U,U,U,U,U,U,U,U,U,U,U,U,U,U,U,U,U,U,U,U,U,U,U,U,U,U,U,U,U,U,U,U,U,U,U,U,U,U,U,U,U,U,U,U,U,U,U,U,U,U,U,U,U,U,U,U,U,U,U,U,U,U,U,U,U,U,U,U,U,U,U,U,U] ?_
            go_upto_region 6 with (fail)
            refine vR ?_
            refine vB cn_big qB5 (cn_size _) ?_
            refine vK (hen _) ?_
            intro qw11 qg12
            replace qB5 := qB5.since qg12
            replace Z := Z.since qg12
            replace H := H.since qg12
            replace qL7 := qL7.since qg12
            replace G := G.trans qg12
            have qg12_s := qg12.size
            refine vV (.slice (some ⟨qw3.heap.size, 0, none⟩) 0 0) ?_
            refine sB (cnCells (endC { c with pa := some ⟨g, 0, none⟩, pc := cp } 0)) cn_big Z (cn_size _) (cn_size _) (cn_one _) ?_
            intro qw13 qt14 qB15
            clear Z
            replace qB5 := qB5.touch qt14 (by omega)
            replace H := H.touch qt14 (by omega)
            replace qL7 := qL7.touch qt14 (by omega)
            replace G := since_touch G qt14 (by omega)
            have qt14_s := qt14.size
            refine vV (.slice (some ⟨qw3.heap.size, 0, none⟩) 0 0) ?_
            refine vE #[.agg (cnCells c),.int .i64 now,.pointer (some ⟨w.heap.size, 0, none⟩),U,.pointer (some ⟨w.heap.size + 1, 0, none⟩),.slice (some ⟨qw3.heap.size, 0, none⟩) 0 0,.slice (some ⟨qw3.heap.size, 0, none⟩) 0 0,U,U,U,.agg (cnCells c),.agg (cnCells { c with pa := some ⟨g, 0, none⟩, pc := cp }),.slice (some ⟨qw3.heap.size, 0, none⟩) 0 0,.agg (cnCells { c with pa := some ⟨g, 0, none⟩, pc := cp }),.bool true,.bool false,.bool false,.int .i64 now,.bool true,.bool false,.bool false,.bool false,.pointer (some ⟨w.heap.size, 0, none⟩),.int .i64 c.st,.bool false,.bool false,U,U,.pointer (some ⟨w.heap.size, 0, none⟩),.int .i64 c.st,.bool true,.bool true,.pointer (some ⟨w.heap.size, 33, none⟩),.int .i64 c.rst,.int .i64 now,.bool true,.bool true,.agg (cnCells { c with pa := some ⟨g, 0, none⟩, pc := cp }),.agg (cnCells (endC { c with pa := some ⟨g, 0, none⟩, pc := cp } 0)),.slice (some ⟨qw3.heap.size, 0, none⟩) 0 0,U,U,U,U,U,U,U,U,U,U,U,U,U,U,U,U,U,U,U,U,U,U,U,U,U,U,U,U,U,U,U,U,U,U,U,U,U,U,U,U,U,U,U,U,U,U,U,U,U,U,U,U,U,U,U,U,U,U,U,U,U,U,U,U,U,U,U,U,U,U,U,U,U,U,U,U,U,U,U,U,U,U,U,U,U,U,U,U,U,U,U,U,U,U,U,U,U,U,U,U,U,U,U,U,U,U,U,U,U,U,U,U,U,U,U,U,U,U,U,U,U,U,U,U,U,U,U,U,U,U,U,U,U,U,U,U,U,U,U,U,U,U,U,U,U,U,U,U] ?_
            go_wp2_with (fail)
            exact bodyPost_ret (results_cn2 (t := 4) (u := 5) rfl _ rfl qB15) rfl ⟨g, cp, _, _, _, by rw [eD.out]; rfl, H, by rw [eS.out]; exact qL7, G⟩
          case false =>
            have hXc : ¬ (c.st = 9 ∧ c.rst ≤ now) := by
              rintro ⟨-, q⟩
              have := hbR.out
              simp [q] at this
            obtain ⟨SV, hSV⟩ : ∃ q, Hid (q = tickX ps now { c with pa := some ⟨g, 0, none⟩, pc := cp }) := ⟨_, rfl⟩
            have hat := tick_at (ps := ps) (now := now) c (some ⟨g, 0, none⟩) cp
            rw [← hSV.out] at hat
            rw [← eD, ← eS] at hat
            replace hat : Hid _ := hat
            have ha : Hid (SV = if dueB (firstX ps now { c with pa := some ⟨g, 0, none⟩, pc := cp }).1.agn now then againX ps now (firstX ps now { c with pa := some ⟨g, 0, none⟩, pc := cp }).1 (firstX ps now { c with pa := some ⟨g, 0, none⟩, pc := cp }).2 else firstX ps now { c with pa := some ⟨g, 0, none⟩, pc := cp }) := hSV.out.trans ((if_neg hs0).trans (if_neg hXc))
            have ok := tickOk_of gc hq.out.symm (some ⟨g, 0, none⟩) cp
            replace hs0 : Hid _ := hs0
            replace hXc : Hid _ := hXc
            replace eD : Hid _ := eD
            replace eS : Hid _ := eS
            refine vR ?_
            refine vV (.pointer (some ⟨w.heap.size, 0, none⟩)) ?_
            refine vD (.int .i64 c.st) (qB5.cell 0) ?_
            refine vV (.bool true) ?_ (hrun := by rw [show true = (c.st == 9) from hb9.out]; kernel_rfl)
            refine vV (.bool true) ?_
            refine vV (.pointer (some ⟨w.heap.size, 33, none⟩)) ?_
            refine vD (.int .i64 c.rst) (qB5.cell 33) ?_
            refine vV (.int .i64 now) ?_
            refine vV (.bool false) ?_ (hrun := by rw [show false = decide (c.rst ≤ now) from hbR.out]; kernel_rfl)
            refine vV (.bool false) ?_
            refine vE #[.agg (cnCells c),.int .i64 now,.pointer (some ⟨w.heap.size, 0, none⟩),U,.pointer (some ⟨w.heap.size + 1, 0, none⟩),.slice none 0 0,.slice (some ⟨qw3.heap.size, 0, none⟩) 0 0,U,U,U,.agg (cnCells c),.agg (cnCells { c with pa := some ⟨g, 0, none⟩, pc := cp }),.slice (some ⟨qw3.heap.size, 0, none⟩) 0 0,.agg (cnCells { c with pa := some ⟨g, 0, none⟩, pc := cp }),.bool true,.bool false,.bool false,.int .i64 now,.bool true,.bool false,.bool false,.bool false,.pointer (some ⟨w.heap.size, 0, none⟩),.int .i64 c.st,.bool false,.bool false,U,U,.pointer (some ⟨w.heap.size, 0, none⟩),.int .i64 c.st,.bool true,.bool true,.pointer (some ⟨w.heap.size, 33, none⟩),.int .i64 c.rst,.int .i64 now,.bool false,.bool false,U,U,U,U,U,U,U,U,U,U,U,U,U,U,U,U,U,U,U,U,U,U,U,U,U,U,U,U,U,U,U,U,U,U,U,U,U,U,U,U,U,U,U,U,U,U,U,U,U,U,U,U,U,U,U,U,U,U,U,U,U,U,U,U,U,U,U,U,U,U,U,U,U,U,U,U,U,U,U,U,U,U,U,U,U,U,U,U,U,U,U,U,U,U,U,U,U,U,U,U,U,U,U,U,U,U,U,U,U,U,U,U,U,U,U,U,U,U,U,U,U,U,U,U,U,U,U,U,U,U,U,U,U,U,U,U,U,U,U,U,U,U,U,U,U,U,U,U,U,U,U] ?_
            go_wp2_with (fail)
            refine hK9.out _ _ ?_
            change Code.wp Tryz.prog _ (bodyPost Tryz.prog Tryz.f5 (fun e w' => ∃ g cp gl n cl, e = .returned (.tuple #[.agg (cnCells { D with pa := some ⟨g, 0, none⟩, pc := cp }), .slice (some ⟨gl, 0, none⟩) n cl]) ∧ Held shP w' w.heap.size g c.pn cp ps ∧ Held shG w' w.heap.size gl n cl XS ∧ Since w w')) _ _
            refine Code.wp_mono (Q := bodyPost Tryz.prog Tryz.f5 (fun e w' => ∃ gl n cl, e = .returned (.tuple #[.agg (cnCells SV.1), .slice (some ⟨gl, 0, none⟩) n cl]) ∧ Held shG w' w.heap.size gl n cl SV.2 ∧ Held shP w' w.heap.size g c.pn cp ps ∧ Since w w')) (post_mono ?_) (Eq.mp (by kernel_rfl) (tick5 { c with pa := some ⟨g, 0, none⟩, pc := cp } ps now SV w qw9 g (qw3.heap.size) (.agg (cnCells c)) undef undef undef undef (.agg (cnCells c)) (.agg (cnCells { c with pa := some ⟨g, 0, none⟩, pc := cp })) (.slice (some ⟨qw3.heap.size, 0, none⟩) 0 0) (.agg (cnCells { c with pa := some ⟨g, 0, none⟩, pc := cp })) (.bool true) (.bool false) (.bool false) (.int .i64 now) (.bool true) (.bool false) (.bool false) (.bool false) (.pointer (some ⟨w.heap.size, 0, none⟩)) (.int .i64 c.st) (.bool false) (.bool false) undef undef (.pointer (some ⟨w.heap.size, 0, none⟩)) (.int .i64 c.st) (.bool true) (.bool true) (.pointer (some ⟨w.heap.size, 33, none⟩)) (.int .i64 c.rst) (.int .i64 now) (.bool false) (.bool false) undef undef undef undef undef undef undef undef undef undef undef undef undef undef undef undef undef undef undef undef undef undef undef undef undef undef undef undef undef undef undef undef undef undef undef undef undef undef undef undef undef undef undef undef undef undef undef undef undef undef undef undef undef undef undef undef undef undef undef undef undef undef undef undef undef undef undef undef undef undef undef undef undef undef undef undef undef undef undef undef undef undef undef undef undef undef undef undef undef undef undef undef undef undef undef undef undef undef undef undef undef undef undef undef undef undef undef undef undef undef undef undef undef undef undef undef undef undef undef undef undef undef undef undef undef undef undef undef undef undef undef undef undef undef undef undef undef undef undef undef undef undef undef undef undef undef undef undef undef undef undef hn.1 hn.2 ok rfl qB5 Z qL7 H G (by omega) (by omega) (by omega) (by exact ha)))
            rintro e w' ⟨gl, n, cl, rfl, HL, HP, GG⟩
            refine ⟨g, cp, gl, n, cl, ?_, HP, ?_, GG⟩
            · rw [hat.out]
            · rw [hat.out] at HL
              exact HL
        case false =>
          have hXc : ¬ (c.st = 9 ∧ c.rst ≤ now) := by
            rintro ⟨q, -⟩
            have := hb9.out
            simp [q] at this
          obtain ⟨SV, hSV⟩ : ∃ q, Hid (q = tickX ps now { c with pa := some ⟨g, 0, none⟩, pc := cp }) := ⟨_, rfl⟩
          have hat := tick_at (ps := ps) (now := now) c (some ⟨g, 0, none⟩) cp
          rw [← hSV.out] at hat
          rw [← eD, ← eS] at hat
          replace hat : Hid _ := hat
          have ha : Hid (SV = if dueB (firstX ps now { c with pa := some ⟨g, 0, none⟩, pc := cp }).1.agn now then againX ps now (firstX ps now { c with pa := some ⟨g, 0, none⟩, pc := cp }).1 (firstX ps now { c with pa := some ⟨g, 0, none⟩, pc := cp }).2 else firstX ps now { c with pa := some ⟨g, 0, none⟩, pc := cp }) := hSV.out.trans ((if_neg hs0).trans (if_neg hXc))
          have ok := tickOk_of gc hq.out.symm (some ⟨g, 0, none⟩) cp
          replace hs0 : Hid _ := hs0
          replace hXc : Hid _ := hXc
          replace eD : Hid _ := eD
          replace eS : Hid _ := eS
          refine vR ?_
          refine vV (.pointer (some ⟨w.heap.size, 0, none⟩)) ?_
          refine vD (.int .i64 c.st) (qB5.cell 0) ?_
          refine vV (.bool false) ?_ (hrun := by rw [show false = (c.st == 9) from hb9.out]; kernel_rfl)
          refine vV (.bool false) ?_
          refine vS ?_
          refine vS ?_
          refine vS ?_
          refine vS ?_
          refine vV (.bool false) ?_
          refine vE #[.agg (cnCells c),.int .i64 now,.pointer (some ⟨w.heap.size, 0, none⟩),U,.pointer (some ⟨w.heap.size + 1, 0, none⟩),.slice none 0 0,.slice (some ⟨qw3.heap.size, 0, none⟩) 0 0,U,U,U,.agg (cnCells c),.agg (cnCells { c with pa := some ⟨g, 0, none⟩, pc := cp }),.slice (some ⟨qw3.heap.size, 0, none⟩) 0 0,.agg (cnCells { c with pa := some ⟨g, 0, none⟩, pc := cp }),.bool true,.bool false,.bool false,.int .i64 now,.bool true,.bool false,.bool false,.bool false,.pointer (some ⟨w.heap.size, 0, none⟩),.int .i64 c.st,.bool false,.bool false,U,U,.pointer (some ⟨w.heap.size, 0, none⟩),.int .i64 c.st,.bool false,.bool false,U,U,U,U,.bool false,U,U,U,U,U,U,U,U,U,U,U,U,U,U,U,U,U,U,U,U,U,U,U,U,U,U,U,U,U,U,U,U,U,U,U,U,U,U,U,U,U,U,U,U,U,U,U,U,U,U,U,U,U,U,U,U,U,U,U,U,U,U,U,U,U,U,U,U,U,U,U,U,U,U,U,U,U,U,U,U,U,U,U,U,U,U,U,U,U,U,U,U,U,U,U,U,U,U,U,U,U,U,U,U,U,U,U,U,U,U,U,U,U,U,U,U,U,U,U,U,U,U,U,U,U,U,U,U,U,U,U,U,U,U,U,U,U,U,U,U,U,U,U,U,U,U,U,U,U,U,U] ?_
          go_wp2_with (fail)
          refine hK9.out _ _ ?_
          change Code.wp Tryz.prog _ (bodyPost Tryz.prog Tryz.f5 (fun e w' => ∃ g cp gl n cl, e = .returned (.tuple #[.agg (cnCells { D with pa := some ⟨g, 0, none⟩, pc := cp }), .slice (some ⟨gl, 0, none⟩) n cl]) ∧ Held shP w' w.heap.size g c.pn cp ps ∧ Held shG w' w.heap.size gl n cl XS ∧ Since w w')) _ _
          refine Code.wp_mono (Q := bodyPost Tryz.prog Tryz.f5 (fun e w' => ∃ gl n cl, e = .returned (.tuple #[.agg (cnCells SV.1), .slice (some ⟨gl, 0, none⟩) n cl]) ∧ Held shG w' w.heap.size gl n cl SV.2 ∧ Held shP w' w.heap.size g c.pn cp ps ∧ Since w w')) (post_mono ?_) (Eq.mp (by kernel_rfl) (tick5 { c with pa := some ⟨g, 0, none⟩, pc := cp } ps now SV w qw9 g (qw3.heap.size) (.agg (cnCells c)) undef undef undef undef (.agg (cnCells c)) (.agg (cnCells { c with pa := some ⟨g, 0, none⟩, pc := cp })) (.slice (some ⟨qw3.heap.size, 0, none⟩) 0 0) (.agg (cnCells { c with pa := some ⟨g, 0, none⟩, pc := cp })) (.bool true) (.bool false) (.bool false) (.int .i64 now) (.bool true) (.bool false) (.bool false) (.bool false) (.pointer (some ⟨w.heap.size, 0, none⟩)) (.int .i64 c.st) (.bool false) (.bool false) undef undef (.pointer (some ⟨w.heap.size, 0, none⟩)) (.int .i64 c.st) (.bool false) (.bool false) undef undef undef undef (.bool false) undef undef undef undef undef undef undef undef undef undef undef undef undef undef undef undef undef undef undef undef undef undef undef undef undef undef undef undef undef undef undef undef undef undef undef undef undef undef undef undef undef undef undef undef undef undef undef undef undef undef undef undef undef undef undef undef undef undef undef undef undef undef undef undef undef undef undef undef undef undef undef undef undef undef undef undef undef undef undef undef undef undef undef undef undef undef undef undef undef undef undef undef undef undef undef undef undef undef undef undef undef undef undef undef undef undef undef undef undef undef undef undef undef undef undef undef undef undef undef undef undef undef undef undef undef undef undef undef undef undef undef undef undef undef undef undef undef undef undef undef undef undef undef undef undef undef undef undef undef undef undef hn.1 hn.2 ok rfl qB5 Z qL7 H G (by omega) (by omega) (by omega) (by exact ha)))
          rintro e w' ⟨gl, n, cl, rfl, HL, HP, GG⟩
          refine ⟨g, cp, gl, n, cl, ?_, HP, ?_, GG⟩
          · rw [hat.out]
          · rw [hat.out] at HL
            exact HL
end Go.Proofs.YtfenlfijfjcdbaaGreat
